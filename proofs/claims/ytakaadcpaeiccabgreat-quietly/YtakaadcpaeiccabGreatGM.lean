import Derived.Test.YtakaadcpaeiccabGreatG0
import Derived.Sort.WalkA
import Derived.Sort.AssemblyPlain
import Derived.ProofKit
import Derived.Laws.OwnMore
import Derived.Deep.QuietTactic
import Derived.BigQuiet
import Derived.BigRegion
import Derived.BigGuard
import Derived.BigCall
import Derived.Maps.AppendAt
namespace Go.Proofs.YtakaadcpaeiccabGreat
open Go.RowKit Go.Sort

/-- Numbers as cells. -/
def UC (d : Array Int) : List Value := d.toList.map (Value.int .u32)
theorem UC_length (d : Array Int) : (UC d).length = d.size := by simp [UC]
theorem UC_get {d : Array Int} {j : Nat} (hj : j < d.size) : (UC d)[j]? = some (.int .u32 d[j]!) := by
  simp [UC, hj]
theorem UC_set (d : Array Int) (j : Nat) (x : Int) : (UC d).set j (.int .u32 x) = UC (d.setIfInBounds j x) := by
  simp [UC, List.map_set]
theorem swp_size (d : Array Int) (i j : Nat) : (swp d i j).size = d.size := by simp [swp]

/-- A row of numbers. -/
structure SR (base g cap n : Nat) (d : Array Int) (W : World) : Prop where
  size : d.size = n
  row : W.ownsRow base 34 1 (.slice (some ⟨g, 0, none⟩) n cap) n (UC d)
theorem SR.cell {base g cap n : Nat} {d : Array Int} {W : World} (h : SR base g cap n d W) {j : Nat} (hj : j < n) : W.cell? ⟨g, j, none⟩ = some (.int .u32 d[j]!) :=
  (h.row.cellAt j (by omega)).trans (UC_get (by rw [h.size]; exact hj))
theorem SR.free {base g cap n : Nat} {d : Array Int} {W : World} (h : SR base g cap n d W) (j : Nat) : W.frozen? ⟨g, j, none⟩ = false := h.row.frozenAt j
theorem SR.later {base g cap n : Nat} {d : Array Int} {W W' : World} (h : SR base g cap n d W) (hb : Below W.heap.size W W') : SR base g cap n d W' :=
  ⟨h.size, h.row.kept (row := none) ⟨hb.os, hb.tape, hb.output, hb.size, fun k hk _ => hb.block k hk⟩ (.inr (by simp [Value.ownBlock]))⟩
theorem SR.drewN {base g cap n : Nat} {d : Array Int} {W : World} (h : SR base g cap n d W) (q : Nat) : SR base g cap n d (W.drewN q) :=
  ⟨h.size, h.row.kept (row := none) ⟨rfl, rfl, rfl, Nat.le_refl _, fun _ _ _ => rfl⟩ (.inr (by simp [Value.ownBlock]))⟩
theorem SR.swap {base g cap n : Nat} {d : Array Int} {W : World} (h : SR base g cap n d W) (i j : Nat) :
    SR base g cap n (swp d i j) ((W.setCell ⟨g, i, none⟩ (.int .u32 d[j]!)).setCell ⟨g, j, none⟩ (.int .u32 d[i]!)) := by
  have h1 := (h.row.stored i (.int .u32 d[j]!)).1
  have h2 := (h1.stored j (.int .u32 d[i]!)).1
  rw [UC_set, UC_set] at h2
  exact ⟨by rw [swp_size]; exact h.size, h2⟩
theorem grn_st {A B : World} {g : Nat} (h : A.grownBy B (some g)) (j : Nat) (v : Value) : A.grownBy (B.setCell ⟨g, j, none⟩ v) (some g) :=
  ⟨h.os, h.tape, h.output, by simpa using h.size, fun i hi hne => (Below.heap_setCell B ⟨g, j, none⟩ v i (fun e => hne (by rw [e]))).trans (h.block i hi hne)⟩
theorem grn_rfl (A : World) (r : Option Nat) : A.grownBy A r := ⟨rfl, rfl, rfl, Nat.le_refl _, fun _ _ _ => rfl⟩
theorem grown_swap (W : World) (g i j : Nat) (u v : Value) : W.grownBy ((W.setCell ⟨g, i, none⟩ u).setCell ⟨g, j, none⟩ v) (some g) := grn_st (grn_st (grn_rfl W (some g)) i _) j _
theorem grown_dN (W : World) (q : Nat) (r : Option Nat) : W.grownBy (W.drewN q) r := ⟨rfl, rfl, rfl, Nat.le_refl _, fun _ _ _ => rfl⟩

set_option maxHeartbeats 1000000 in
theorem isNaN_any (x : Int) (w : World) : Calls Tryz.prog 204 #[.int .u32 x] w fun e w' => e = .returned (.bool false) ∧ w' = w := by
  go_enter Tryz.func204, Tryz.ntmps204
  go_wp2
  go_ret
  exact ⟨by simp, rfl⟩
set_option maxHeartbeats 1000000 in
theorem Less_any (x y : Int) (w : World) : Calls Tryz.prog 189 #[.int .u32 x, .int .u32 y] w fun e w' => e = .returned (.bool (ltInt x y)) ∧ w' = w := by
  go_enter Tryz.func189, Tryz.ntmps189
  go_wp2_with (go_at_call 204; refine (isNaN_any _ _).mono ?_; rintro e w' ⟨rfl, rfl⟩)
  go_ret
  exact ⟨rfl, rfl⟩
end Go.Proofs.YtakaadcpaeiccabGreat

namespace Go.Proofs.YtakaadcpaeiccabGreat
open Go.RowKit Go.Sort

theorem uInner_go (a j : Nat) (d : Array Int) (hj : a < j) (hl : ltInt d[j]! d[j - 1]! = true) : insInner ltInt a j d = insInner ltInt a (j - 1) (swp d j (j - 1)) := by
  match j, hj with
  | k + 1, hj =>
    rw [insInner]
    simp only [Nat.add_sub_cancel] at hl ⊢
    rw [if_pos]
    simp [hj, hl]
theorem uInner_stop (a j : Nat) (d : Array Int) (h : j ≤ a ∨ ltInt d[j]! d[j - 1]! = false) : insInner ltInt a j d = d := by
  match j with
  | 0 => rw [insInner]
  | k + 1 =>
    rw [insInner]
    simp only [Nat.add_sub_cancel] at h
    rw [if_neg]
    rcases h with h | h
    · simp; omega
    · simp [h]
theorem uOuter_go (a b i : Nat) (d : Array Int) (h : i < b) : insOuter ltInt a b i d = insOuter ltInt a b (i + 1) (insInner ltInt a i d) := by rw [insOuter, if_pos h]
theorem uOuter_stop (a b i : Nat) (d : Array Int) (h : ¬ i < b) : insOuter ltInt a b i d = d := by rw [insOuter, if_neg h]

set_option maxRecDepth 100000 in
set_option maxHeartbeats 4000000 in
theorem insertion_any (base g cap n a b : Nat) (d : Array Int) (w : World) (h : SR base g cap n d w) (hab : a ≤ b) (hb : b ≤ n) (hn : n ≤ 1000000) :
    Calls Tryz.prog 183 #[.slice (some ⟨g, 0, none⟩) n cap, .int .i64 a, .int .i64 b] w fun e w' => e = .returned (.tuple #[]) ∧ SR base g cap n (insertionSort ltInt d a b) w' ∧ w.grownBy w' (some g) := by
  go_enter Tryz.func183, Tryz.ntmps183
  go_wp2_with fail
  go_loopw [6] (fun vi wr => ∃ (i : Nat) (dk : Array Int), vi = .int .i64 i ∧ a < i ∧ i ≤ b + 1 ∧ SR base g cap n dk wr ∧ w.grownBy wr (some g) ∧ insOuter ltInt a b i dk = insertionSort ltInt d a b) (fun vi _ => b + 1 - (intOf vi).toNat)
  case atStart => exact ⟨a + 1, d, by go_num, by omega, by omega, h, grn_rfl _ _, rfl⟩
  case round =>
    clear h
    obtain ⟨i, dk, rfl, hai, hib, h, hg, hO⟩ := hrel
    have HO := (show Hid _ from hO)
    clear hO
    by_cases hlt : i < b
    · have hix : (i : Int) < (b : Int) := by omega
      go_wp2_with fail
      go_loopw [7] (fun vj wr2 => ∃ (j : Nat) (dj : Array Int), vj = .int .i64 j ∧ a ≤ j ∧ j ≤ i ∧ SR base g cap n dj wr2 ∧ w.grownBy wr2 (some g) ∧ insInner ltInt a j dj = insInner ltInt a i dk) (fun vj _ => (intOf vj).toNat)
      case atStart => exact ⟨i, dk, rfl, by omega, Nat.le_refl _, h, hg, rfl⟩
      case round =>
        clear h hg
        obtain ⟨j, dj, rfl, haj, hji, h, hg, hI⟩ := hrel
        have hjn : (j : Int) < (n : Int) := by omega
        have hj1n : (j : Int) - 1 < (n : Int) := by omega
        by_cases hja : a < j
        · have hjp : (1 : Int) ≤ (j : Int) := by omega
          have c0 := h.cell (j := j) (by omega)
          have c1 := h.cell (j := j - 1) (by omega)
          have f0 := h.free j
          have f1 := h.free (j - 1)
          have hq : (j : Int) - 1 = ((j - 1 : Nat) : Int) := by omega
          have hs := h.swap j (j - 1)
          have hgs := fun u v => grown_swap wr g j (j - 1) u v
          have hgo := uInner_go a j dj hja
          have hst := uInner_stop a j dj
          generalize hX : dj[j]! = X at c0 hs hgo hst
          generalize hY : dj[j - 1]! = Y at c1 hs hgo hst
          have hJn : ((j - 1 : Nat) : Int) < (n : Int) := by omega
          have hj0 : (0 : Int) ≤ (j : Int) - 1 := by omega
          generalize hJ : j - 1 = J at c1 f1 hq hs hgs hgo hst hJn
          have HJ := (show Hid _ from hJ)
          have HI := (show Hid _ from hI)
          have HS := (show Hid _ from hst)
          clear hJ hI hst
          have hdj : decide (a < j) = true := decide_eq_true hja
          go_wp2_with fail
          go_quiet (first | (go_at_call 189; refine Calls.quiet_of_same (Less_any _ _ _)))
          cases hl : ltInt X Y
          · go_wp2
            go_roundw
            case rel => exact ⟨i + 1, dj, by go_num, by omega, by omega, h.drewN _, hg.trans (grown_dN _ _ _), by rw [← HO.out, uOuter_go _ _ _ _ hlt, ← HI.out, HS.out (.inr hl)]⟩
            case measure => simp [intOf]; omega
          · have hs' := (h.drewN (nq + 1)).swap j J
            have hg' := hg.trans ((grown_dN wr (nq + 1) (some g)).trans (grown_swap _ g j J (.int .u32 dj[J]!) (.int .u32 dj[j]!)))
            rw [hX, ← HJ.out, hY, HJ.out] at hs' hg'
            have hJj : J + 1 = j := by have := HJ.out; omega
            clear hX hY
            go_wp2_with fail
            go_region
            all_goals go_wp2
            go_roundw
            case rel => exact ⟨J, swp dj j J, rfl, by omega, by omega, hs', hg', by rw [← HI.out, hgo hl]⟩
            case measure => simp [intOf]; omega
        · have hdj : decide (a < j) = false := decide_eq_false hja
          have hst := uInner_stop a j dj (.inl (by omega))
          go_wp2_with fail
          go_quiet (fail)
          go_wp2
          go_roundw
          case rel => exact ⟨i + 1, dj, by go_num, by omega, by omega, h.drewN _, hg.trans (grown_dN _ _ _), by rw [← HO.out, uOuter_go _ _ _ _ hlt, ← hI, hst]⟩
          case measure => simp [intOf]; omega
    · have hend : insOuter ltInt a b i dk = dk := uOuter_stop a b i dk hlt
      rw [HO.out] at hend
      rw [← hend] at h
      go_wp2
      go_returns
      exact ⟨rfl, h, hg⟩
end Go.Proofs.YtakaadcpaeiccabGreat

namespace Go.Proofs.YtakaadcpaeiccabGreat
open Go.RowKit Go.Sort

theorem uDown_end (hi first root : Nat) (d : Array Int) (h : ¬ 2 * root + 1 < hi) : siftDown ltInt hi first root d = d := by
  rw [siftDown, dif_pos (by omega)]
/-- The greater of the two below. -/
def chd (hi first root : Nat) (d : Array Int) : Nat := if 2 * root + 1 + 1 < hi ∧ ltInt d[first + (2 * root + 1)]! d[first + (2 * root + 1) + 1]! = true then 2 * root + 2 else 2 * root + 1
theorem chd_b (hi first root : Nat) (d : Array Int) (h : 2 * root + 1 < hi) : root < chd hi first root d ∧ chd hi first root d < hi := by
  unfold chd
  split <;> omega
theorem uDown_go (hi first root : Nat) (d : Array Int) (h : 2 * root + 1 < hi) :
    siftDown ltInt hi first root d = if ltInt d[first + root]! d[first + chd hi first root d]! = true then siftDown ltInt hi first (chd hi first root d) (swp d (first + root) (first + chd hi first root d)) else d := by
  rw [siftDown, dif_neg (by omega)]
  unfold chd
  by_cases h1 : 2 * root + 1 + 1 < hi ∧ ltInt d[first + (2 * root + 1)]! d[first + (2 * root + 1) + 1]! = true
  · rw [if_pos h1, if_pos (by simp [h1.1, h1.2])]
    cases h2 : ltInt d[first + root]! d[first + (2 * root + 2)]!
    · simp
    · simp only [Bool.not_true, Bool.false_eq_true, if_false, if_true]
      rw [dif_pos (by omega)]
  · rw [if_neg h1, if_neg (by simpa using h1)]
    cases h2 : ltInt d[first + root]! d[first + (2 * root + 1)]! <;> simp

set_option maxRecDepth 100000 in
set_option maxHeartbeats 4000000 in
theorem siftDown_any (base g cap n lo hi first : Nat) (d : Array Int) (w : World) (h : SR base g cap n d w) (hb : first + hi ≤ n) (hlo : lo ≤ n) (hn : n ≤ 1000000) :
    Calls Tryz.prog 199 #[.slice (some ⟨g, 0, none⟩) n cap, .int .i64 lo, .int .i64 hi, .int .i64 first] w fun e w' => e = .returned (.tuple #[]) ∧ SR base g cap n (siftDown ltInt hi first lo d) w' ∧ w.grownBy w' (some g) := by
  go_enter Tryz.func199, Tryz.ntmps199
  go_wp2_with fail
  go_loopw [8] (fun vr wr => ∃ (r : Nat) (dk : Array Int), vr = .int .i64 r ∧ r ≤ n ∧ SR base g cap n dk wr ∧ w.grownBy wr (some g) ∧ siftDown ltInt hi first r dk = siftDown ltInt hi first lo d) (fun vr _ => 2 * n - (intOf vr).toNat)
  case atStart => exact ⟨lo, d, rfl, hlo, h, grn_rfl _ _, rfl⟩
  case round =>
    clear h
    obtain ⟨r, dk, rfl, hr, h, hg, hO⟩ := hrel
    have HO := (show Hid _ from hO)
    clear hO
    by_cases hlt : 2 * r + 1 < hi
    · have hgo := uDown_go hi first r dk hlt
      obtain ⟨hc1, hc2⟩ := chd_b hi first r dk hlt
      have hd1 : decide ((hi : Int) ≤ 2 * (r : Int) + 1) = false := decide_eq_false (by omega)
      obtain ⟨C0, hC0⟩ : ∃ C0, C0 = 2 * r + 1 := ⟨_, rfl⟩
      have hq : 2 * (r : Int) + 1 = (C0 : Int) := by omega
      have hC1 : C0 < hi := by omega
      have hC2 : r < C0 := by omega
      rw [hq] at hd1
      have hcd : chd hi first r dk = if C0 + 1 < hi ∧ ltInt dk[first + C0]! dk[first + C0 + 1]! = true then C0 + 1 else C0 := by
        unfold chd
        subst hC0
        rfl
      clear hC0
      have cA := h.cell (j := first + C0) (by omega)
      have hfA : (first : Int) + (C0 : Int) < (n : Int) := by omega
      by_cases h2 : C0 + 1 < hi
      · have hd2 : decide ((C0 : Int) + 1 < (hi : Int)) = true := decide_eq_true (by omega)
        have hd2' : decide (C0 + 1 < hi) = true := decide_eq_true h2
        have cB := h.cell (j := first + C0 + 1) (by omega)
        have hfB : (first : Int) + (C0 : Int) + 1 < (n : Int) := by omega
        generalize dk[first + C0]! = P at cA hcd
        generalize dk[first + C0 + 1]! = Q at cB hcd
        have HCD := (show Hid _ from hcd)
        have HGO0 := (show Hid _ from hgo)
        clear hcd hgo
        go_wp2_with fail
        go_quiet (first | (go_at_call 189; refine Calls.quiet_of_same (Less_any _ _ _)))
        have hcd := HCD.out
        have hgo := HGO0.out
        cases hlt1 : ltInt P Q
        · have hchd : chd hi first r dk = C0 := by rw [hcd, if_neg (by simp [hlt1])]
          clear hcd HCD HGO0
          rw [hchd] at hc1 hc2
          have h1 := h.drewN nq
          have hg1 := hg.trans (grown_dN wr nq (some g))
          generalize wr.drewN nq = W1 at h1 hg1 ⊢
          clear h hg cA cB
          have cR := h1.cell (j := first + r) (by omega)
          have cC := h1.cell (j := first + C0) (by omega)
          have fR := h1.free (first + r)
          have fC := h1.free (first + C0)
          rw [hchd] at hgo
          have hs' := fun q => (h1.drewN q).swap (first + r) (first + C0)
          have hg' := fun q => hg1.trans ((grown_dN W1 q (some g)).trans (grown_swap _ g (first + r) (first + C0) (.int .u32 dk[first + C0]!) (.int .u32 dk[first + r]!)))
          generalize dk[first + r]! = X at cR hgo hs' hg'
          generalize dk[first + C0]! = Y at cC hgo hs' hg'
          have hfr : (first : Int) + (r : Int) < (n : Int) := by omega
          have hfc : (first : Int) + (C0 : Int) < (n : Int) := by omega
          have HGO := (show Hid _ from hgo)
          clear hgo hchd
          go_wp2_with fail
          go_quiet (first | (go_at_call 189; refine Calls.quiet_of_same (Less_any _ _ _)))
          cases hl : ltInt X Y
          · have hend := HGO.out
            rw [hl] at hend
            simp only [Bool.false_eq_true, if_false] at hend
            rw [HO.out] at hend
            rw [← hend] at h1
            go_wp2
            go_returns
            exact ⟨rfl, h1.drewN _, hg1.trans (grown_dN _ _ _)⟩
          · have hend := HGO.out
            rw [hl, HO.out] at hend
            simp only [if_true] at hend
            replace hs' := hs' (nq + 1)
            replace hg' := hg' (nq + 1)
            go_wp2_with fail
            go_region
            all_goals go_wp2
            go_roundw
            case rel => exact ⟨C0, swp dk (first + r) (first + C0), by first | rfl | (congr 1; omega), by omega, hs', hg', hend.symm⟩
            case measure => simp [intOf]; omega
        · have hchd : chd hi first r dk = C0 + 1 := by rw [hcd, if_pos ⟨h2, hlt1⟩]
          clear hcd HCD HGO0
          obtain ⟨c, hc⟩ : ∃ c, c = C0 + 1 := ⟨_, rfl⟩
          have hcc : (C0 : Int) + 1 = (c : Int) := by omega
          rw [← hc] at hchd
          rw [hchd] at hc1 hc2
          have hc3 : c < hi := by omega
          clear hc
          have h1 := h.drewN nq
          have hg1 := hg.trans (grown_dN wr nq (some g))
          generalize wr.drewN nq = W1 at h1 hg1 ⊢
          clear h hg cA cB
          have cR := h1.cell (j := first + r) (by omega)
          have cC := h1.cell (j := first + c) (by omega)
          have fR := h1.free (first + r)
          have fC := h1.free (first + c)
          rw [hchd] at hgo
          have hs' := fun q => (h1.drewN q).swap (first + r) (first + c)
          have hg' := fun q => hg1.trans ((grown_dN W1 q (some g)).trans (grown_swap _ g (first + r) (first + c) (.int .u32 dk[first + c]!) (.int .u32 dk[first + r]!)))
          generalize dk[first + r]! = X at cR hgo hs' hg'
          generalize dk[first + c]! = Y at cC hgo hs' hg'
          have hfr : (first : Int) + (r : Int) < (n : Int) := by omega
          have hfc : (first : Int) + (c : Int) < (n : Int) := by omega
          have HGO := (show Hid _ from hgo)
          clear hgo hchd
          go_wp2_with fail
          go_quiet (first | (go_at_call 189; refine Calls.quiet_of_same (Less_any _ _ _)))
          cases hl : ltInt X Y
          · have hend := HGO.out
            rw [hl] at hend
            simp only [Bool.false_eq_true, if_false] at hend
            rw [HO.out] at hend
            rw [← hend] at h1
            go_wp2
            go_returns
            exact ⟨rfl, h1.drewN _, hg1.trans (grown_dN _ _ _)⟩
          · have hend := HGO.out
            rw [hl, HO.out] at hend
            simp only [if_true] at hend
            replace hs' := hs' (nq + 1)
            replace hg' := hg' (nq + 1)
            go_wp2_with fail
            go_region
            all_goals go_wp2
            go_roundw
            case rel => exact ⟨c, swp dk (first + r) (first + c), by first | rfl | (congr 1; omega), by omega, hs', hg', hend.symm⟩
            case measure => simp [intOf]; omega
      · have hd2 : decide ((C0 : Int) + 1 < (hi : Int)) = false := decide_eq_false (by omega)
        have hd2' : decide (C0 + 1 < hi) = false := decide_eq_false h2
        have cB := cA
        have hchd : chd hi first r dk = C0 := by rw [hcd, if_neg (fun e => h2 e.1)]
        have HGO0 := (show Hid _ from hgo)
        have HCH := (show Hid _ from hchd)
        clear hcd hgo hchd
        go_wp2_with fail
        go_quiet (first | (go_at_call 189; refine Calls.quiet_of_same (Less_any _ _ _)))
        have hgo := HGO0.out
        have hchd := HCH.out
        clear HGO0 HCH
        rw [hchd] at hc1 hc2
        have h1 := h.drewN nq
        have hg1 := hg.trans (grown_dN wr nq (some g))
        generalize wr.drewN nq = W1 at h1 hg1 ⊢
        clear h hg cA cB
        have cR := h1.cell (j := first + r) (by omega)
        have cC := h1.cell (j := first + C0) (by omega)
        have fR := h1.free (first + r)
        have fC := h1.free (first + C0)
        rw [hchd] at hgo
        have hs' := fun q => (h1.drewN q).swap (first + r) (first + C0)
        have hg' := fun q => hg1.trans ((grown_dN W1 q (some g)).trans (grown_swap _ g (first + r) (first + C0) (.int .u32 dk[first + C0]!) (.int .u32 dk[first + r]!)))
        generalize dk[first + r]! = X at cR hgo hs' hg'
        generalize dk[first + C0]! = Y at cC hgo hs' hg'
        have hfr : (first : Int) + (r : Int) < (n : Int) := by omega
        have hfc : (first : Int) + (C0 : Int) < (n : Int) := by omega
        have HGO := (show Hid _ from hgo)
        clear hgo hchd
        go_wp2_with fail
        go_quiet (first | (go_at_call 189; refine Calls.quiet_of_same (Less_any _ _ _)))
        cases hl : ltInt X Y
        · have hend := HGO.out
          rw [hl] at hend
          simp only [Bool.false_eq_true, if_false] at hend
          rw [HO.out] at hend
          rw [← hend] at h1
          go_wp2
          go_returns
          exact ⟨rfl, h1.drewN _, hg1.trans (grown_dN _ _ _)⟩
        · have hend := HGO.out
          rw [hl, HO.out] at hend
          simp only [if_true] at hend
          replace hs' := hs' (nq + 1)
          replace hg' := hg' (nq + 1)
          go_wp2_with fail
          go_region
          all_goals go_wp2
          go_roundw
          case rel => exact ⟨C0, swp dk (first + r) (first + C0), by first | rfl | (congr 1; omega), by omega, hs', hg', hend.symm⟩
          case measure => simp [intOf]; omega
    · have hend : siftDown ltInt hi first r dk = dk := uDown_end hi first r dk hlt
      rw [HO.out] at hend
      rw [← hend] at h
      have hd1 : decide ((hi : Int) ≤ 2 * (r : Int) + 1) = true := decide_eq_true (by omega)
      go_wp2
      go_returns
      exact ⟨rfl, h, hg⟩
end Go.Proofs.YtakaadcpaeiccabGreat
