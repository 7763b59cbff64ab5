import Derived.Test.YtjkjepoeiabpiaaM2
import Derived.Deep.QuietTactic
import Derived.BigQuiet
namespace Go.Proofs.Ytjkjepoeiabpiaa
open Go.RowKit Go.Maps
open Hp

theorem RR.later {base T : Nat} {last : Int} {A : List Tm} {v : Value} {W W' : World} (r : RR base T last A v W) (hb : Below W.heap.size W W') : RR base T last A v W' :=
  ⟨(hb.block T r.blk.lt).trans r.blk, step_append_kept r.row hb, r.ok, r.bT⟩
/-- What Next of the plain timers may leave. -/
def RNextP (base T : Nat) (last : Int) (A : List Tm) (v : Value) (w : World) (now : Int) (e : Ending) (w' : World) : Prop :=
  ∃ A' v', RR base T last A' v' w' ∧ Fr T T v w w' ∧ (v'.ownBlock = v.ownBlock ∨ ∀ k, v'.ownBlock = some k → w.heap.size ≤ k) ∧
    ((∃ b, b < A.length ∧ (at' A b).1 ≤ now ∧ (∀ q, q < A.length → (at' A b).1 ≤ (at' A q).1) ∧ (∀ q, q < b → (at' A b).1 < (at' A q).1) ∧ e = .returned (.tuple #[.int .i64 (at' A b).2.2, .bool true]) ∧ A' = A.eraseIdx b) ∨
      ((∀ q, q < A.length → now < (at' A q).1) ∧ e = .returned (.tuple #[.int .i64 0, .bool false]) ∧ A' = A))
/-- What is found in the first j. -/
def RBest (A : List Tm) (now : Int) (j : Nat) (b : Int) : Prop :=
  (b = -1 ∧ ∀ q, q < j → now < (at' A q).1) ∨ (∃ m : Nat, b = m ∧ m < j ∧ (at' A m).1 ≤ now ∧ (∀ q, q < j → (at' A m).1 ≤ (at' A q).1) ∧ ∀ q, q < m → (at' A m).1 < (at' A q).1)

set_option maxRecDepth 100000 in
set_option maxHeartbeats 4000000 in
theorem rNext_any (base T : Nat) (last : Int) (A : List Tm) (v : Value) (w : World) (r : RR base T last A v w) (hn : A.length ≤ 1000000) (hbs : base ≤ w.heap.size) (now : Int) :
    Calls Try.prog 29 #[.pointer (some ⟨T, 0, none⟩), .int .u64 now] w fun e w' => RNextP base T last A v w now e w' := by
  obtain ⟨c0, c1⟩ := r.blk.cell
  obtain ⟨ao, c, rfl, _⟩ := row_form r.row
  go_enter Try.func29, Try.ntmps29
  go_wp2_with fail
  go_loopw [6, 7] (fun bv i wr => ∃ (j : Nat) (b : Int), j ≤ A.length ∧ i = .int .i64 j ∧ bv = .int .i64 b ∧ Below w.heap.size w wr ∧ RBest A now j b) (fun _ i _ => A.length - (intOf i).toNat)
  case atStart => exact ⟨0, -1, Nat.zero_le _, rfl, rfl, Below.refl _ _, .inl ⟨rfl, fun q hq => by omega⟩⟩
  case round =>
    obtain ⟨j, b, hj, rfl, rfl, hb, hbest⟩ := hrel
    replace r := r.later hb
    have hF := (Fr.refl T T (.slice ao A.length c) w).later hb
    clear c0 c1
    obtain ⟨c0, c1⟩ := r.blk.cell
    by_cases hlt : j < A.length
    · have hl := RL_length A
      have hix : (j : Int) < (A.length : Int) := by omega
      obtain ⟨g, cap, hv, hg⟩ := r.shape (by omega)
      cases hv
      have d2 := (r.row.cellAt (j * 3 + 2) (by omega)).trans (RL_at hlt).2.2
      by_cases hdue : (at' A j).1 ≤ now
      · have hd : decide ((at' A j).1 ≤ now) = true := decide_eq_true hdue
        rcases hbest with ⟨rfl, hall⟩ | ⟨m, rfl, hmj, hm1, hm2, hm3⟩
        · have hnew : RBest A now (j + 1) j := by
            refine .inr ⟨j, rfl, by omega, hdue, fun q hq => ?_, fun q hq => ?_⟩
            · by_cases e : q = j
              · subst e; exact Int.le_refl _
              · have := hall q (by omega); omega
            · have := hall q hq; omega
          clear r hl hall
          go_wp2_with fail
          go_quiet (fail)
          go_wp2
          go_roundw
          case rel => exact ⟨j + 1, j, by omega, by go_num, rfl, below_drewN hb _, hnew⟩
          case measure => simp [intOf]; omega
        · have hml : m < A.length := by omega
          have hmx : (m : Int) < (A.length : Int) := by omega
          have e2 := (r.row.cellAt (m * 3 + 2) (by omega)).trans (RL_at hml).2.2
          have hneg : decide ((m : Int) < 0) = false := decide_eq_false (by omega)
          by_cases hless : (at' A j).1 < (at' A m).1
          · have hdl : decide ((at' A j).1 < (at' A m).1) = true := decide_eq_true hless
            have hnew : RBest A now (j + 1) j := by
              refine .inr ⟨j, rfl, by omega, hdue, fun q hq => ?_, fun q hq => ?_⟩
              · by_cases e : q = j
                · subst e; exact Int.le_refl _
                · have := hm2 q (by omega); omega
              · have := hm2 q hq; omega
            clear r hl hm2 hm3
            go_wp2_with fail
            go_quiet (fail)
            go_wp2
            go_roundw
            case rel => exact ⟨j + 1, j, by omega, by go_num, rfl, below_drewN hb _, hnew⟩
            case measure => simp [intOf]; omega
          · have hdl : decide ((at' A j).1 < (at' A m).1) = false := decide_eq_false hless
            have hnew : RBest A now (j + 1) m := by
              refine .inr ⟨m, rfl, by omega, hm1, fun q hq => ?_, hm3⟩
              by_cases e : q = j
              · subst e; omega
              · exact hm2 q (by omega)
            clear r hl hm2 hm3
            go_wp2_with fail
            go_quiet (fail)
            go_wp2
            go_roundw
            case rel => exact ⟨j + 1, m, by omega, by go_num, rfl, below_drewN hb _, hnew⟩
            case measure => simp [intOf]; omega
      · have hd : decide ((at' A j).1 ≤ now) = false := decide_eq_false hdue
        have hnew : RBest A now (j + 1) b := by
          rcases hbest with ⟨rfl, hall⟩ | ⟨m, rfl, hmj, hm1, hm2, hm3⟩
          · refine .inl ⟨rfl, fun q hq => ?_⟩
            by_cases e : q = j
            · subst e; omega
            · exact hall q (by omega)
          · refine .inr ⟨m, rfl, by omega, hm1, fun q hq => ?_, hm3⟩
            by_cases e : q = j
            · subst e; omega
            · exact hm2 q (by omega)
        clear r hl hbest
        go_wp2_with fail
        go_quiet (fail)
        go_wp2
        go_roundw
        case rel => exact ⟨j + 1, b, by omega, by go_num, rfl, below_drewN hb _, hnew⟩
        case measure => simp [intOf]; omega
    · obtain rfl : j = A.length := by omega
      rcases hbest with ⟨rfl, hall⟩ | ⟨m, rfl, hmj, hm1, hm2, hm3⟩
      · have hfin : RNextP base T last A (.slice ao A.length c) w now (.returned (.tuple #[.int .i64 0, .bool false])) wr := ⟨A, _, r, hF, .inl rfl, .inr ⟨hall, rfl, rfl⟩⟩
        clear r hF hall
        go_wp2
        go_ret2
        exact hfin
      · have hl := RL_length A
        obtain ⟨g, cap, hv, hg⟩ := r.shape (by omega)
        cases hv
        have hmx : (m : Int) < (A.length : Int) := by omega
        have e1 := (r.row.cellAt (m * 3 + 1) (by omega)).trans (RL_at hmj).2.1
        have hneg : decide ((m : Int) < 0) = false := decide_eq_false (by omega)
        have hw := without_any base T last A _ _ r m hmj hn (Nat.le_trans hbs hb.size)
        have hsz := hb.size
        clear hl
        go_wp2_with fail
        refine hw.mono ?_
        rintro e w1 ⟨rfl, v1, r1, hF1, hv1⟩
        clear hw r c0 c1 e1
        go_wp2
        go_ret2
        exact ⟨_, v1, r1, hF.trans hF1 (.inl rfl), .inr (fun k hk => Nat.le_trans hsz (hv1 k hk)), .inl ⟨m, hmj, hm1, hm2, hm3, rfl, rfl⟩⟩
end Go.Proofs.Ytjkjepoeiabpiaa
