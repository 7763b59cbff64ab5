import Derived.Test.YtmahaccaglaldaaG1
namespace Go.Proofs.Ytmahaccaglaldaa
open Go.RowKit

/-- What a packet has of what its kind has. -/
def Pkt.ownP (p : Pkt) : Pkt :=
  if p.kind = 1 then ⟨p.ttl, 1, p.hops, p.unk, p.id, p.dest, if p.unk then 0 else p.dseq, p.frm, p.fseq, 0, none, 0, 0, ⟨#[]⟩⟩
  else if p.kind = 2 then ⟨p.ttl, 2, p.hops, false, 0, p.dest, p.dseq, p.frm, 0, p.life, none, 0, 0, ⟨#[]⟩⟩
  else if p.kind = 3 then ⟨p.ttl, 3, 0, false, 0, 0, 0, 0, 0, 0, p.la, p.ln, p.lc, ⟨#[]⟩⟩
  else if p.kind = 9 then ⟨p.ttl, 9, 0, false, p.id, p.dest, 0, p.frm, 0, 0, none, 0, 0, p.pay⟩
  else ⟨p.ttl, p.kind, 0, false, 0, 0, 0, 0, 0, 0, none, 0, 0, ⟨#[]⟩⟩

set_option maxHeartbeats 1000000 in
theorem own_1t (p : Pkt) (hk : p.kind = 1) (hu : p.unk = true) (w : World) :
    Calls Try.prog 18 #[p.val] w fun e w' => e = .returned p.ownP.val ∧ Below w.heap.size w w' := by
  obtain ⟨ttl, kind, hops, unk, id, dest, dseq, frm, fseq, life, la, ln, lc, pay⟩ := p
  simp only at hk
  subst hk
  simp only at hu
  subst hu
  go_enter Try.func18, Try.ntmps18
  go_wp2
  all_goals (go_returns; refine ⟨rfl, ?_⟩; go_grown)

set_option maxHeartbeats 1000000 in
theorem own_1f (p : Pkt) (hk : p.kind = 1) (hu : p.unk = false) (w : World) :
    Calls Try.prog 18 #[p.val] w fun e w' => e = .returned p.ownP.val ∧ Below w.heap.size w w' := by
  obtain ⟨ttl, kind, hops, unk, id, dest, dseq, frm, fseq, life, la, ln, lc, pay⟩ := p
  simp only at hk
  subst hk
  simp only at hu
  subst hu
  go_enter Try.func18, Try.ntmps18
  go_wp2
  all_goals (go_returns; refine ⟨rfl, ?_⟩; go_grown)

set_option maxHeartbeats 1000000 in
theorem own_2 (p : Pkt) (hk : p.kind = 2) (w : World) :
    Calls Try.prog 18 #[p.val] w fun e w' => e = .returned p.ownP.val ∧ Below w.heap.size w w' := by
  obtain ⟨ttl, kind, hops, unk, id, dest, dseq, frm, fseq, life, la, ln, lc, pay⟩ := p
  simp only at hk
  subst hk
  go_enter Try.func18, Try.ntmps18
  go_wp2
  all_goals (go_returns; refine ⟨rfl, ?_⟩; go_grown)

set_option maxHeartbeats 1000000 in
theorem own_3 (p : Pkt) (hk : p.kind = 3) (w : World) :
    Calls Try.prog 18 #[p.val] w fun e w' => e = .returned p.ownP.val ∧ Below w.heap.size w w' := by
  obtain ⟨ttl, kind, hops, unk, id, dest, dseq, frm, fseq, life, la, ln, lc, pay⟩ := p
  simp only at hk
  subst hk
  go_enter Try.func18, Try.ntmps18
  go_wp2
  all_goals (go_returns; refine ⟨rfl, ?_⟩; go_grown)

set_option maxHeartbeats 1000000 in
theorem own_9 (p : Pkt) (hk : p.kind = 9) (w : World) :
    Calls Try.prog 18 #[p.val] w fun e w' => e = .returned p.ownP.val ∧ Below w.heap.size w w' := by
  obtain ⟨ttl, kind, hops, unk, id, dest, dseq, frm, fseq, life, la, ln, lc, pay⟩ := p
  simp only at hk
  subst hk
  go_enter Try.func18, Try.ntmps18
  go_wp2
  all_goals (go_returns; refine ⟨rfl, ?_⟩; go_grown)

set_option maxHeartbeats 1000000 in
theorem own_0 (p : Pkt) (h1 : (p.kind == 1) = false) (h2 : (p.kind == 2) = false) (h3 : (p.kind == 3) = false) (h9 : (p.kind == 9) = false) (w : World) :
    Calls Try.prog 18 #[p.val] w fun e w' => e = .returned p.ownP.val ∧ Below w.heap.size w w' := by
  have hf : p.ownP = ⟨p.ttl, p.kind, 0, false, 0, 0, 0, 0, 0, 0, none, 0, 0, ⟨#[]⟩⟩ := by
    unfold Pkt.ownP
    simp only [beq_eq_false_iff_ne, ne_eq] at h1 h2 h3 h9
    simp [h1, h2, h3, h9]
  rw [hf]
  clear hf
  go_enter Try.func18, Try.ntmps18
  go_wp2
  all_goals (go_returns; refine ⟨rfl, ?_⟩; go_grown)

theorem own_any (p : Pkt) (w : World) :
    Calls Try.prog 18 #[p.val] w fun e w' => e = .returned p.ownP.val ∧ Below w.heap.size w w' := by
  by_cases h1 : p.kind = 1
  · cases hu : p.unk
    · exact own_1f p h1 hu w
    · exact own_1t p h1 hu w
  by_cases h2 : p.kind = 2
  · exact own_2 p h2 w
  by_cases h3 : p.kind = 3
  · exact own_3 p h3 w
  by_cases h9 : p.kind = 9
  · exact own_9 p h9 w
  exact own_0 p (by simpa using h1) (by simpa using h2) (by simpa using h3) (by simpa using h9) w

end Go.Proofs.Ytmahaccaglaldaa
