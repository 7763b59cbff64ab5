import Derived.Test.YtppbdalkfkemgaaW1
import Derived.Deep.RegionHeld3
namespace Go.Proofs.Ytppbdalkfkemgaa
open Go.RowKit

set_option maxHeartbeats 400000 in
theorem numbers_1 (B : Nat) (w : World) (hc : w.cell? ⟨B, 1, none⟩ = some (.int .i64 1)) :
    Calls Try.prog 56 #[.pointer (some ⟨B, 0, none⟩)] w fun e w' => e = .returned (.slice (some ⟨w.heap.size, 0, none⟩) 5 5) ∧
      w' = (w.alloc (.cells #[.pointer (some ⟨B, 4, none⟩), .pointer (some ⟨B, 5, none⟩), .pointer (some ⟨B, 6, none⟩), .pointer (some ⟨B, 7, none⟩), .pointer (some ⟨B, 8, none⟩)] 108)).drew := by
  go_enter Try.func56, Try.ntmps56
  go_wp2
  go_region_held3 (fun _ => True) (trivial) (fail)
  go_wp2
  all_goals (go_ret; exact ⟨rfl, rfl⟩)

set_option maxHeartbeats 400000 in
theorem numbers_2 (B : Nat) (w : World) (hc : w.cell? ⟨B, 1, none⟩ = some (.int .i64 2)) :
    Calls Try.prog 56 #[.pointer (some ⟨B, 0, none⟩)] w fun e w' => e = .returned (.slice (some ⟨w.heap.size, 0, none⟩) 4 4) ∧
      w' = (w.alloc (.cells #[.pointer (some ⟨B, 5, none⟩), .pointer (some ⟨B, 6, none⟩), .pointer (some ⟨B, 7, none⟩), .pointer (some ⟨B, 9, none⟩)] 108)).drew := by
  go_enter Try.func56, Try.ntmps56
  go_wp2
  go_region_held3 (fun _ => True) (trivial) (fail)
  go_wp2
  all_goals (go_ret; exact ⟨rfl, rfl⟩)

set_option maxHeartbeats 400000 in
theorem numbers_9 (B : Nat) (w : World) (hc : w.cell? ⟨B, 1, none⟩ = some (.int .i64 9)) :
    Calls Try.prog 56 #[.pointer (some ⟨B, 0, none⟩)] w fun e w' => e = .returned (.slice (some ⟨w.heap.size, 0, none⟩) 3 3) ∧
      w' = (w.alloc (.cells #[.pointer (some ⟨B, 4, none⟩), .pointer (some ⟨B, 5, none⟩), .pointer (some ⟨B, 7, none⟩)] 108)).drew := by
  go_enter Try.func56, Try.ntmps56
  go_wp2
  go_region_held3 (fun _ => True) (trivial) (fail)
  go_wp2
  all_goals (go_ret; exact ⟨rfl, rfl⟩)

set_option maxHeartbeats 400000 in
theorem numbers_0 (B : Nat) (k : Int) (h1 : (k == 1) = false) (h2 : (k == 2) = false) (h9 : (k == 9) = false) (w : World) (hc : w.cell? ⟨B, 1, none⟩ = some (.int .i64 k)) :
    Calls Try.prog 56 #[.pointer (some ⟨B, 0, none⟩)] w fun e w' => e = .returned (.slice none 0 0) ∧ w' = w := by
  go_enter Try.func56, Try.ntmps56
  go_wp2
  all_goals (go_ret; exact ⟨rfl, rfl⟩)

/-- A packet without what its kind has. -/
def Pkt.forP (p : Pkt) : Pkt :=
  if p.kind = 1 then { p with hops := 0, unk := false, id := 0, dest := 0, dseq := 0, frm := 0, fseq := 0 }
  else if p.kind = 2 then { p with hops := 0, dest := 0, dseq := 0, frm := 0, life := 0 }
  else if p.kind = 3 then { p with la := none, ln := 0, lc := 0 }
  else if p.kind = 9 then { p with id := 0, dest := 0, frm := 0, pay := ⟨#[]⟩ }
  else p

set_option maxHeartbeats 1000000 in
theorem foreign_1 (p : Pkt) (hk : p.kind = 1) (w : World) :
    Calls Try.prog 92 #[p.val] w fun e w' => e = .returned p.forP.val ∧ Below w.heap.size w w' := by
  obtain ⟨ttl, kind, hops, unk, id, dest, dseq, frm, fseq, life, la, ln, lc, pay⟩ := p
  simp only at hk
  subst hk
  go_enter Try.func92, Try.ntmps92
  go_wp2_with (go_at_call 56; refine (numbers_1 _ _ ?_).mono ?_; (simp [go_sem]); rintro e w' ⟨rfl, rfl⟩)
  go_rounds 6
  all_goals (go_returns; refine ⟨rfl, ?_⟩; go_grown)

set_option maxHeartbeats 1000000 in
theorem foreign_2 (p : Pkt) (hk : p.kind = 2) (w : World) :
    Calls Try.prog 92 #[p.val] w fun e w' => e = .returned p.forP.val ∧ Below w.heap.size w w' := by
  obtain ⟨ttl, kind, hops, unk, id, dest, dseq, frm, fseq, life, la, ln, lc, pay⟩ := p
  simp only at hk
  subst hk
  go_enter Try.func92, Try.ntmps92
  go_wp2_with (go_at_call 56; refine (numbers_2 _ _ ?_).mono ?_; (simp [go_sem]); rintro e w' ⟨rfl, rfl⟩)
  go_rounds 5
  all_goals (go_returns; refine ⟨rfl, ?_⟩; go_grown)

set_option maxHeartbeats 1000000 in
theorem foreign_3 (p : Pkt) (hk : p.kind = 3) (w : World) :
    Calls Try.prog 92 #[p.val] w fun e w' => e = .returned p.forP.val ∧ Below w.heap.size w w' := by
  obtain ⟨ttl, kind, hops, unk, id, dest, dseq, frm, fseq, life, la, ln, lc, pay⟩ := p
  simp only at hk
  subst hk
  go_enter Try.func92, Try.ntmps92
  go_wp2_with (go_at_call 56; refine (numbers_0 _ 3 rfl rfl rfl _ ?_).mono ?_; (simp [go_sem]); rintro e w' ⟨rfl, rfl⟩)
  go_rounds 1
  all_goals (go_returns; refine ⟨rfl, ?_⟩; go_grown)

set_option maxHeartbeats 1000000 in
theorem foreign_9 (p : Pkt) (hk : p.kind = 9) (w : World) :
    Calls Try.prog 92 #[p.val] w fun e w' => e = .returned p.forP.val ∧ Below w.heap.size w w' := by
  obtain ⟨ttl, kind, hops, unk, id, dest, dseq, frm, fseq, life, la, ln, lc, pay⟩ := p
  simp only at hk
  subst hk
  go_enter Try.func92, Try.ntmps92
  go_wp2_with (go_at_call 56; refine (numbers_9 _ _ ?_).mono ?_; (simp [go_sem]); rintro e w' ⟨rfl, rfl⟩)
  go_rounds 4
  all_goals (go_returns; refine ⟨rfl, ?_⟩; go_grown)

set_option maxHeartbeats 1000000 in
theorem foreign_0 (p : Pkt) (h1 : (p.kind == 1) = false) (h2 : (p.kind == 2) = false) (h3 : (p.kind == 3) = false) (h9 : (p.kind == 9) = false) (w : World) :
    Calls Try.prog 92 #[p.val] w fun e w' => e = .returned p.forP.val ∧ Below w.heap.size w w' := by
  have hf : p.forP = p := by
    unfold Pkt.forP
    simp only [beq_eq_false_iff_ne, ne_eq] at h1 h2 h3 h9
    simp [h1, h2, h3, h9]
  rw [hf]
  clear hf
  go_enter Try.func92, Try.ntmps92
  go_wp2_with (go_at_call 56; refine (numbers_0 _ p.kind h1 h2 h9 _ ?_).mono ?_; (simp [go_sem]); rintro e w' ⟨rfl, rfl⟩)
  go_rounds 1
  all_goals (go_returns; refine ⟨rfl, ?_⟩; go_grown)

theorem foreign_any (p : Pkt) (w : World) :
    Calls Try.prog 92 #[p.val] w fun e w' => e = .returned p.forP.val ∧ Below w.heap.size w w' := by
  by_cases h1 : p.kind = 1
  · exact foreign_1 p h1 w
  by_cases h2 : p.kind = 2
  · exact foreign_2 p h2 w
  by_cases h3 : p.kind = 3
  · exact foreign_3 p h3 w
  by_cases h9 : p.kind = 9
  · exact foreign_9 p h9 w
  exact foreign_0 p (by simpa using h1) (by simpa using h2) (by simpa using h3) (by simpa using h9) w
end Go.Proofs.Ytppbdalkfkemgaa
