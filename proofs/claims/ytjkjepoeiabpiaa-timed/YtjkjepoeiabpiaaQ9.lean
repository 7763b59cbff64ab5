import Derived.Test.YtjkjepoeiabpiaaQ8
namespace Go.Proofs.Ytjkjepoeiabpiaa
open Go.RowKit Go.Maps
open Hp

set_option maxRecDepth 100000 in
set_option maxHeartbeats 4000000 in
theorem Cancel_any (base T M : Nat) (last : Int) (h : List Tm) (v : Value) (w : World) (r : TR base T M last h v w) (hn : h.length ≤ 1000000) (hb : Heap h) (k : Int) (hk : I64 k) :
    Calls Try.prog 26 #[.pointer (some ⟨T, 0, none⟩), .int .i64 k] w fun e w' => ∃ h' v', TR base T M last h' v' w' ∧ Fr T M v w w' ∧ v'.ownBlock = v.ownBlock ∧ Heap h' ∧
      ((∃ x, x.2.1 = k ∧ e = .returned (.bool true) ∧ (x :: h').Perm h) ∨ ((∀ x ∈ h, x.2.1 ≠ k) ∧ e = .returned (.bool false) ∧ h' = h)) := by
  obtain ⟨f, hm, hp⟩ := r.map
  obtain ⟨u, hr, hu⟩ := hm.look hk
  obtain ⟨c0, c1, c2⟩ := r.blk.cell
  have hF := Fr.refl T M v w
  cases hf : f k with
  | none =>
    rw [hf] at hr
    have hno : ∀ x ∈ h, x.2.1 ≠ k := by
      intro x hx e
      obtain ⟨i, hi, rfl⟩ := List.mem_iff_getElem.1 hx
      have := hp.1 i _ (List.getElem?_eq_getElem hi)
      rw [e, hf] at this
      cases this
    simp only [Option.isSome_none] at hr
    clear hm hp hu hf
    go_enter Try.func26, Try.ntmps26
    go_wp2
    go_ret
    exact ⟨h, v, r, hF, rfl, hb, .inr ⟨hno, rfl, rfl⟩⟩
  | some i =>
    rw [hf] at hr
    obtain rfl := hu i hf
    obtain ⟨x, hx, hxk⟩ := hp.2 k i hf
    have hi : i < h.length := by
      rcases Nat.lt_or_ge i h.length with a | a
      · exact a
      · rw [List.getElem?_eq_none a] at hx; cases hx
    have hax := at_some hx
    simp only [Option.isSome_some] at hr
    clear hm hp hu hf hx
    go_enter Try.func26, Try.ntmps26
    go_wp2_with fail
    refine (remove_any base T M last h v _ r i hi hn hb).mono ?_
    rintro e w1 ⟨rfl, h', v', r1, hF1, hv1, hp1, hH1⟩
    rw [hax] at hp1
    clear hr r c0 c1 c2
    go_wp2
    go_ret
    exact ⟨h', v', r1, hF1, hv1, hH1, .inl ⟨x, hxk, rfl, hp1⟩⟩

theorem fd_what (a b c : Int) (w : World) : (Instr.field 107 (.agg #[.int .u64 a, .int .i64 b, .int .i64 c]) 2).run Try.prog w = .ok (.int .i64 c) w := by kernel_rfl
/-- What Next may leave. -/
def NextP (base T M : Nat) (last : Int) (h : List Tm) (v : Value) (w : World) (now : Int) (e : Ending) (w' : World) : Prop :=
  ∃ h' v', TR base T M last h' v' w' ∧ Fr T M v w w' ∧ v'.ownBlock = v.ownBlock ∧ Heap h' ∧
      ((0 < h.length ∧ (at' h 0).1 ≤ now ∧ e = .returned (.tuple #[.int .i64 (at' h 0).2.2, .bool true]) ∧ (at' h 0 :: h').Perm h) ∨ ((h.length = 0 ∨ now < (at' h 0).1) ∧ e = .returned (.tuple #[.int .i64 0, .bool false]) ∧ h' = h))

set_option maxRecDepth 100000 in
set_option maxHeartbeats 4000000 in
theorem Next_any (base T M : Nat) (last : Int) (h : List Tm) (v : Value) (w : World) (r : TR base T M last h v w) (hn : h.length ≤ 1000000) (hb : Heap h) (now : Int) (_n0 : 0 ≤ now) (_n1 : now < 18446744073709551616) :
    Calls Try.prog 28 #[.pointer (some ⟨T, 0, none⟩), .int .u64 now] w fun e w' => NextP base T M last h v w now e w' := by
  obtain ⟨c0, c1, c2⟩ := r.blk.cell
  have hF := Fr.refl T M v w
  by_cases h0 : h.length = 0
  · obtain ⟨ao, c, hv, _⟩ := row_form r.row
    have hz : ((h.length : Int) == 0) = true := by rw [beq_iff_eq]; omega
    rw [hv] at c0
    go_enter Try.func28, Try.ntmps28
    go_wp2
    go_ret2
    exact ⟨h, v, r, hF, rfl, hb, .inr ⟨.inl h0, rfl, rfl⟩⟩
  · have hpos : 0 < h.length := by omega
    obtain ⟨g, cap, rfl, hg⟩ := r.shape hpos
    have hz : ((h.length : Int) == 0) = false := by rw [beq_eq_false_iff_ne]; omega
    have hin : (0 : Int) < (h.length : Int) := by omega
    have hl := TC_length h
    have d0 := (r.row.cellAt (0 * 3) (by omega)).trans (TC_at hpos).1
    rw [Nat.zero_mul] at d0
    by_cases hle : (at' h 0).1 ≤ now
    · have hd : decide (now < (at' h 0).1) = false := decide_eq_false (by omega)
      have hfd := fd_what
      clear hl
      go_enter Try.func28, Try.ntmps28
      go_wp2_with fail
      refine (remove_any base T M last h _ _ r 0 hpos hn hb).mono ?_
      rintro e w1 ⟨rfl, h', v', r1, hF1, hv1, hp1, hH1⟩
      clear r c0 c1 c2 d0 hd
      dsimp only [tmV]
      go_wp2
      go_ret2
      exact ⟨h', v', r1, hF1, hv1, hH1, .inl ⟨hpos, hle, rfl, hp1⟩⟩
    · have hd : decide (now < (at' h 0).1) = true := decide_eq_true (by omega)
      clear hl
      go_enter Try.func28, Try.ntmps28
      go_wp2
      go_ret2
      exact ⟨h, _, r, hF, rfl, hb, .inr ⟨.inr (by omega), rfl, rfl⟩⟩
end Go.Proofs.Ytjkjepoeiabpiaa
