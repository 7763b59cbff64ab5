import Derived.Test.YtjkjepoeiabpiaaM2
namespace Go.Proofs.Ytjkjepoeiabpiaa
open Go.RowKit Go.Maps
open Hp

/-- What Cancel of the plain timers may leave. -/
def RCancelP (base T : Nat) (last : Int) (A : List Tm) (v : Value) (w : World) (k : Int) (e : Ending) (w' : World) : Prop :=
  ∃ A' v', RR base T last A' v' w' ∧ Fr T T v w w' ∧ (v'.ownBlock = v.ownBlock ∨ ∀ k, v'.ownBlock = some k → w.heap.size ≤ k) ∧
    ((∃ i, i < A.length ∧ (at' A i).2.1 = k ∧ e = .returned (.bool true) ∧ A' = A.eraseIdx i) ∨ ((∀ i, i < A.length → (at' A i).2.1 ≠ k) ∧ e = .returned (.bool false) ∧ A' = A))

set_option maxRecDepth 100000 in
set_option maxHeartbeats 4000000 in
theorem rCancel_any (base T : Nat) (last : Int) (A : List Tm) (v : Value) (w : World) (r : RR base T last A v w) (hn : A.length ≤ 1000000) (hbs : base ≤ w.heap.size) (k : Int) :
    Calls Try.prog 27 #[.pointer (some ⟨T, 0, none⟩), .int .i64 k] w fun e w' => RCancelP base T last A v w k e w' := by
  obtain ⟨c0, c1⟩ := r.blk.cell
  obtain ⟨ao, c, rfl, _⟩ := row_form r.row
  go_enter Try.func27, Try.ntmps27
  go_wp2_with fail
  go_loopw [5] (fun i wr => ∃ (j : Nat), j ≤ A.length ∧ i = .int .i64 j ∧ wr = w ∧ ∀ q, q < j → (at' A q).2.1 ≠ k) (fun i _ => A.length - (intOf i).toNat)
  case atStart => exact ⟨0, Nat.zero_le _, rfl, rfl, fun q hq => by omega⟩
  case round =>
    obtain ⟨j, hj, rfl, rfl, hno⟩ := hrel
    by_cases hlt : j < A.length
    · have hl := RL_length A
      have hix : (j : Int) < (A.length : Int) := by omega
      obtain ⟨g, cap, hv, hg⟩ := r.shape (by omega)
      cases hv
      have d0 := (r.row.cellAt (j * 3) (by omega)).trans (RL_at hlt).1
      clear hl
      by_cases hk : (at' A j).2.1 = k
      · have hd : ((at' A j).2.1 == k) = true := by rw [beq_iff_eq]; exact hk
        have hw := without_any base T last A _ _ r j hlt hn hbs
        clear hno
        go_wp2_with fail
        refine hw.mono ?_
        rintro e w1 ⟨rfl, v1, r1, hF1, hv1⟩
        clear hw r c0 c1 d0
        go_wp2
        go_ret
        exact ⟨_, v1, r1, hF1, .inr hv1, .inl ⟨j, hlt, hk, rfl, rfl⟩⟩
      · have hd : ((at' A j).2.1 == k) = false := by rw [beq_eq_false_iff_ne]; exact hk
        have hno' : ∀ q, q < j + 1 → (at' A q).2.1 ≠ k := by
          intro q hq
          by_cases e : q = j
          · subst e; exact hk
          · exact hno q (by omega)
        clear r
        go_wp2
        go_roundw
        case rel => exact ⟨j + 1, by omega, by go_num, by trivial, hno'⟩
        case measure => simp [intOf]; omega
    · obtain rfl : j = A.length := by omega
      have hF := Fr.refl T T (.slice ao A.length c) wr
      have hfin : RCancelP base T last A (.slice ao A.length c) wr k (.returned (.bool false)) wr := ⟨A, _, r, hF, .inl rfl, .inr ⟨hno, rfl, rfl⟩⟩
      clear r hF hno
      go_wp2
      go_ret
      exact hfin
end Go.Proofs.Ytjkjepoeiabpiaa
