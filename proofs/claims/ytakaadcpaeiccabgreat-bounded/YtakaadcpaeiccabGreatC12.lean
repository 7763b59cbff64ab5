import Derived.Test.YtakaadcpaeiccabGreatC08
import Derived.Sort.WalkC4
namespace Go.Proofs.YtakaadcpaeiccabGreat
open Go.RowKit Go.Sort

theorem SR.alias {base g cap n : Nat} {d : Array Int} {W : World} (h : SR base g cap n d W) (i : Nat) {j : Nat} (hj : j < n) (u : Value) : ∃ v, (W.setCell ⟨g, i, none⟩ u).cell? ⟨g, j, none⟩ = some v :=
  cell?_setCell_some (w := W) (p := ⟨g, i, none⟩) (x := u) (q := ⟨g, j, none⟩) (h.cell hj)

set_option maxRecDepth 100000 in
set_option maxHeartbeats 12000000 in
theorem partition_any (base g cap n a b pivot : Nat) (d : Array Int) (w : World) (h : SR base g cap n d w) (hap : a ≤ pivot) (hpb : pivot < b) (hb : b ≤ n) (hn : n ≤ 1000000) :
    Calls Tryz.prog 191 #[.slice (some ⟨g, 0, none⟩) n cap, .int .i64 a, .int .i64 b, .int .i64 pivot] w fun e w' => ∃ (mid : Nat) (ap : Bool) (d' : Array Int), partition ltInt d a b pivot = (mid, ap, d') ∧ e = .returned (.tuple #[.int .i64 mid, .bool ap]) ∧ SR base g cap n d' w' ∧ w.grownBy w' (some g) := by
  have hg := grn_rfl w (some g)
  obtain ⟨dk, hdk⟩ : ∃ dk, dk = d := ⟨_, rfl⟩
  rw [← hdk] at h
  have cR := h.cell (j := a) (by omega)
  have cC := h.cell (j := pivot) (by omega)
  have fR := h.free (a)
  have fC := h.free (pivot)
  have hs' := h.swap a pivot
  have hg' := hg.trans (grown_swap _ g (a) (pivot) (.int .u32 dk[pivot]!) (.int .u32 dk[a]!))
  obtain ⟨v3, hy3⟩ := h.alias (a) (j := pivot) (by omega) (.int .u32 dk[pivot]!)
  have hf1 : ((a : Nat) : Int) < (n : Int) := by omega
  have hf2 : ((pivot : Nat) : Int) < (n : Int) := by omega
  generalize dk[a]! = X1 at cR hs' hg'
  generalize dk[pivot]! = Y1 at cC hs' hg' hy3
  rw [hdk] at hs'
  clear h hg hdk dk
  go_enter Tryz.func191, Tryz.ntmps191
  go_wp2_with fail
  go_region
  all_goals
    have h := hs'.drewN 1
    have hg := hg'.trans (grown_dN _ 1 _)
    clear hs' hg' cR cC fR fC hy3 v3
    obtain ⟨dk, hdk⟩ : ∃ dk, dk = swp d a pivot := ⟨_, rfl⟩
    rw [← hdk] at h
    have HD := (show Hid _ from hdk)
    clear hdk
    obtain ⟨i, hi⟩ : ∃ i, i = a + 1 := ⟨_, rfl⟩
    obtain ⟨j, hj⟩ : ∃ j, j = b - 1 := ⟨_, rfl⟩
    have hqi : (a : Int) + 1 = (i : Int) := by omega
    have hqj : (b : Int) - 1 = (j : Int) := by omega
    have hai : a < i := by omega
    have hij : i ≤ j + 1 := by omega
    have hjb : j < b := by omega
    have HI := (show Hid _ from hi)
    have HJ0 := (show Hid _ from hj)
    clear hi hj
    obtain ⟨A, hA⟩ : ∃ A, A = dk[a]! := ⟨_, rfl⟩
    have HA := (show Hid _ from hA)
    clear hA
    go_wp2_with fail
    go_loopw [10] (fun vi wr => ∃ i' : Nat, vi = .int .i64 i' ∧ i ≤ i' ∧ i' ≤ j + 1 ∧ SR base g cap n dk wr ∧ w.grownBy wr (some g) ∧ Hid (scanUp (fun x => ltInt x A) dk j i' = scanUp (fun x => ltInt x A) dk j i)) (fun vi _ => j + 1 - (intOf vi).toNat)
    case atStart => exact ⟨i, rfl, Nat.le_refl _, hij, h, hg, rfl⟩
    case round =>
      clear h hg
      obtain ⟨i', rfl, hii, hij', h, hg, hsc⟩ := hrel
      have cA := h.cell (j := a) (by omega)
      rw [← HA.out] at cA
      by_cases hle : i' ≤ j
      · have cI := h.cell (j := i') (by omega)
        obtain ⟨X, hX⟩ : ∃ X, X = dk[i']! := ⟨_, rfl⟩
        rw [← hX] at cI
        have HX := (show Hid _ from hX)
        clear hX
        have hin : (i' : Int) < (n : Int) := by omega
        have han : (a : Int) < (n : Int) := by omega
        have hd : decide ((i' : Int) ≤ (j : Int)) = true := decide_eq_true (by omega)
        have hd' : decide (i' ≤ j) = true := decide_eq_true hle
        go_wp2_with fail
        go_quiet (first | (go_at_call 189; refine Calls.quiet_of_same (Less_any _ _ _)))
        cases hl : ltInt X A
        · have hi2 : Hid (i' = scanUp (fun x => ltInt x A) dk j i) := (scanUp_end (fun x => ltInt x A) dk j i' (.inr (by show ltInt dk[i']! A = false; rw [← HX.out]; exact hl))).symm.trans hsc.out
          clear cA cI hsc hd hd' HX
          go_wp2_with fail
          go_loopw [11] (fun vj w2 => ∃ j' : Nat, vj = .int .i64 j' ∧ j' ≤ j ∧ i' ≤ j' + 1 ∧ SR base g cap n dk w2 ∧ w.grownBy w2 (some g) ∧ Hid (scanDown (fun x => !ltInt x A) dk i' j' = scanDown (fun x => !ltInt x A) dk i' j)) (fun vj _ => (intOf vj).toNat)
          case atStart => exact ⟨j, rfl, Nat.le_refl _, hij', h.drewN _, hg.trans (grown_dN _ _ _), rfl⟩
          case round =>
            clear h hg
            obtain ⟨j', rfl, hjj, hij2, h, hg, hsd⟩ := hrel
            have cA := h.cell (j := a) (by omega)
            rw [← HA.out] at cA
            by_cases hle2 : i' ≤ j'
            · have cJ := h.cell (j := j') (by omega)
              obtain ⟨Y, hY⟩ : ∃ Y, Y = dk[j']! := ⟨_, rfl⟩
              rw [← hY] at cJ
              have HY := (show Hid _ from hY)
              clear hY
              have hjn : (j' : Int) < (n : Int) := by omega
              have han : (a : Int) < (n : Int) := by omega
              have hd2 : decide ((i' : Int) ≤ (j' : Int)) = true := decide_eq_true (by omega)
              have hd2' : decide (i' ≤ j') = true := decide_eq_true hle2
              go_wp2_with fail
              go_quiet (first | (go_at_call 189; refine Calls.quiet_of_same (Less_any _ _ _)))
              cases hl2 : ltInt Y A
              · have hjq : (j' : Int) - 1 = ((j' - 1 : Nat) : Int) := by omega
                have HJ := (show Hid _ from hjq)
                clear hjq
                go_wp2
                go_roundw
                case rel => exact ⟨j' - 1, by rw [← HJ.out], by omega, by omega, h.drewN _, hg.trans (grown_dN _ _ _), (scanDown_go (fun x => !ltInt x A) dk i' j' hle2 (by omega) (by show (!ltInt dk[j']! A) = true; rw [← HY.out, hl2]; rfl)).symm.trans hsd.out⟩
                case measure => simp [intOf] <;> omega
              · have hj2 : Hid (j' = scanDown (fun x => !ltInt x A) dk i' j) := (scanDown_end (fun x => !ltInt x A) dk i' j' (.inr (by show (!ltInt dk[j']! A) = false; rw [← HY.out, hl2]; rfl))).symm.trans hsd.out
                have hlt3 : i' < j' := part_scans_lt ltInt a i j dk (by omega) (by rw [← HA.out]; exact hi2.out) (by rw [← HA.out]; exact hj2.out) hle2
                clear cA cJ hsd hd2 hd2' HY hl2
                replace hg := hg.trans (grown_dN wr nq (some g))
                replace h := h.drewN nq
                generalize wr.drewN nq = W3 at h hg ⊢
                have cR := h.cell (j := i') (by omega)
                have cC := h.cell (j := j') (by omega)
                have fR := h.free (i')
                have fC := h.free (j')
                have hs' := h.swap i' j'
                have hg' := hg.trans (grown_swap _ g (i') (j') (.int .u32 dk[j']!) (.int .u32 dk[i']!))
                obtain ⟨v3, hy3⟩ := h.alias (i') (j := j') (by omega) (.int .u32 dk[j']!)
                have hf1 : ((i' : Nat) : Int) < (n : Int) := by omega
                have hf2 : ((j' : Nat) : Int) < (n : Int) := by omega
                generalize dk[i']! = X1 at cR hs' hg'
                generalize dk[j']! = Y1 at cC hs' hg' hy3
                have hdg : decide ((j' : Int) < (i' : Int)) = false := decide_eq_false (by omega)
                have hpart := part_first_go ltInt d a b pivot (i2 := i') (j2 := j') HI.out HJ0.out HD.out (by rw [← HA.out]; exact hi2.out) (by rw [← HA.out]; exact hj2.out) (by omega)
                have hsz : (swp dk i' j').size = n := by rw [swp_size]; exact h.size
                have HP0 := (show Hid _ from hpart)
                clear hpart h hg hi2 hj2 HA HI HJ0 HD
                have hjq : (j' : Int) - 1 = ((j' - 1 : Nat) : Int) := by omega
                have HJ := (show Hid _ from hjq)
                clear hjq
                go_wp2_with fail
                go_region
                all_goals
                  go_wp2_with fail
                  replace hs' := hs'.drewN 1
                  replace hg' := hg'.trans (grown_dN _ 1 _)
                  generalize swp dk i' j' = dk1 at hs' HP0
                  go_loopw [10, 11] (fun vi vj wr => ∃ (i j : Nat) (dk : Array Int), vi = .int .i64 i ∧ vj = .int .i64 j ∧ a < i ∧ i ≤ j + 1 ∧ j < b ∧ SR base g cap n dk wr ∧ w.grownBy wr (some g) ∧ partLoop ltInt a i j dk = partLoop ltInt a (i' + 1) (j' - 1) dk1) (fun vi vj _ => (intOf vj).toNat + 1 - (intOf vi).toNat)
                  case atStart => exact ⟨i' + 1, j' - 1, dk1, by go_num, by rw [← HJ.out], by omega, by omega, by omega, hs', hg', rfl⟩
                  case round =>
                    clear hs' hg' cR cC fR fC hy3 hf1 hf2 hdg hii hij hjj hij' hij2 hle hle2 hlt3
                    obtain ⟨i, j, dk, rfl, rfl, hai, hij, hjb, h, hg, hL⟩ := hrel
                    have HL := (show Hid _ from hL)
                    clear hL
                    obtain ⟨A, hA⟩ : ∃ A, A = dk[a]! := ⟨_, rfl⟩
                    have HA := (show Hid _ from hA)
                    clear hA
                    go_wp2_with fail
                    go_loopw [10] (fun vi wr => ∃ i' : Nat, vi = .int .i64 i' ∧ i ≤ i' ∧ i' ≤ j + 1 ∧ SR base g cap n dk wr ∧ w.grownBy wr (some g) ∧ Hid (scanUp (fun x => ltInt x A) dk j i' = scanUp (fun x => ltInt x A) dk j i)) (fun vi _ => j + 1 - (intOf vi).toNat)
                    case atStart => exact ⟨i, rfl, Nat.le_refl _, hij, h, hg, rfl⟩
                    case round =>
                      clear h hg
                      obtain ⟨i', rfl, hii, hij', h, hg, hsc⟩ := hrel
                      have cA := h.cell (j := a) (by omega)
                      rw [← HA.out] at cA
                      by_cases hle : i' ≤ j
                      · have cI := h.cell (j := i') (by omega)
                        obtain ⟨X, hX⟩ : ∃ X, X = dk[i']! := ⟨_, rfl⟩
                        rw [← hX] at cI
                        have HX := (show Hid _ from hX)
                        clear hX
                        have hin : (i' : Int) < (n : Int) := by omega
                        have han : (a : Int) < (n : Int) := by omega
                        have hd : decide ((i' : Int) ≤ (j : Int)) = true := decide_eq_true (by omega)
                        have hd' : decide (i' ≤ j) = true := decide_eq_true hle
                        go_wp2_with fail
                        go_quiet (first | (go_at_call 189; refine Calls.quiet_of_same (Less_any _ _ _)))
                        cases hl : ltInt X A
                        · have hi2 : Hid (i' = scanUp (fun x => ltInt x A) dk j i) := (scanUp_end (fun x => ltInt x A) dk j i' (.inr (by show ltInt dk[i']! A = false; rw [← HX.out]; exact hl))).symm.trans hsc.out
                          clear cA cI hsc hd hd' HX
                          go_wp2_with fail
                          go_loopw [11] (fun vj w2 => ∃ j' : Nat, vj = .int .i64 j' ∧ j' ≤ j ∧ i' ≤ j' + 1 ∧ SR base g cap n dk w2 ∧ w.grownBy w2 (some g) ∧ Hid (scanDown (fun x => !ltInt x A) dk i' j' = scanDown (fun x => !ltInt x A) dk i' j)) (fun vj _ => (intOf vj).toNat)
                          case atStart => exact ⟨j, rfl, Nat.le_refl _, hij', h.drewN _, hg.trans (grown_dN _ _ _), rfl⟩
                          case round =>
                            clear h hg
                            obtain ⟨j', rfl, hjj, hij2, h, hg, hsd⟩ := hrel
                            have cA := h.cell (j := a) (by omega)
                            rw [← HA.out] at cA
                            by_cases hle2 : i' ≤ j'
                            · have cJ := h.cell (j := j') (by omega)
                              obtain ⟨Y, hY⟩ : ∃ Y, Y = dk[j']! := ⟨_, rfl⟩
                              rw [← hY] at cJ
                              have HY := (show Hid _ from hY)
                              clear hY
                              have hjn : (j' : Int) < (n : Int) := by omega
                              have han : (a : Int) < (n : Int) := by omega
                              have hd2 : decide ((i' : Int) ≤ (j' : Int)) = true := decide_eq_true (by omega)
                              have hd2' : decide (i' ≤ j') = true := decide_eq_true hle2
                              go_wp2_with fail
                              go_quiet (first | (go_at_call 189; refine Calls.quiet_of_same (Less_any _ _ _)))
                              cases hl2 : ltInt Y A
                              · have hjq : (j' : Int) - 1 = ((j' - 1 : Nat) : Int) := by omega
                                have HJ := (show Hid _ from hjq)
                                clear hjq
                                go_wp2
                                go_roundw
                                case rel => exact ⟨j' - 1, by rw [← HJ.out], by omega, by omega, h.drewN _, hg.trans (grown_dN _ _ _), (scanDown_go (fun x => !ltInt x A) dk i' j' hle2 (by omega) (by show (!ltInt dk[j']! A) = true; rw [← HY.out, hl2]; rfl)).symm.trans hsd.out⟩
                                case measure => simp [intOf] <;> omega
                              · have hj2 : Hid (j' = scanDown (fun x => !ltInt x A) dk i' j) := (scanDown_end (fun x => !ltInt x A) dk i' j' (.inr (by show (!ltInt dk[j']! A) = false; rw [← HY.out, hl2]; rfl))).symm.trans hsd.out
                                have hlt3 : i' < j' := part_scans_lt ltInt a i j dk (by omega) (by rw [← HA.out]; exact hi2.out) (by rw [← HA.out]; exact hj2.out) hle2
                                clear cA cJ hsd hd2 hd2' HY hl2
                                replace hg := hg.trans (grown_dN wr nq (some g))
                                replace h := h.drewN nq
                                generalize wr.drewN nq = W3 at h hg ⊢
                                have cR := h.cell (j := i') (by omega)
                                have cC := h.cell (j := j') (by omega)
                                have fR := h.free (i')
                                have fC := h.free (j')
                                have hs' := h.swap i' j'
                                have hg' := hg.trans (grown_swap _ g (i') (j') (.int .u32 dk[j']!) (.int .u32 dk[i']!))
                                obtain ⟨v3, hy3⟩ := h.alias (i') (j := j') (by omega) (.int .u32 dk[j']!)
                                have hf1 : ((i' : Nat) : Int) < (n : Int) := by omega
                                have hf2 : ((j' : Nat) : Int) < (n : Int) := by omega
                                generalize dk[i']! = X1 at cR hs' hg'
                                generalize dk[j']! = Y1 at cC hs' hg' hy3
                                have hdg : decide ((j' : Int) < (i' : Int)) = false := decide_eq_false (by omega)
                                have hgo3 := part_go ltInt a i j dk (i2 := i') (j2 := j') (by rw [← HA.out]; exact hi2.out) (by rw [← HA.out]; exact hj2.out) (by omega)
                                rw [HL.out] at hgo3
                                have HG3 := (show Hid _ from hgo3)
                                clear hgo3 h hg
                                have hjq : (j' : Int) - 1 = ((j' - 1 : Nat) : Int) := by omega
                                have HJ := (show Hid _ from hjq)
                                clear hjq
                                go_wp2_with fail
                                go_region
                                all_goals
                                  go_wp2
                                  go_roundw
                                  case rel => exact ⟨i' + 1, j' - 1, _, by go_num, by rw [← HJ.out], by omega, by omega, by omega, hs'.drewN 1, hg'.trans (grown_dN _ 1 _), HG3.out.symm⟩
                                  case measure => simp [intOf] <;> omega
                            · have hd2 : decide ((i' : Int) ≤ (j' : Int)) = false := decide_eq_false (by omega)
                              have hd2' : decide (i' ≤ j') = false := decide_eq_false hle2
                              have hj2 : Hid (j' = scanDown (fun x => !ltInt x A) dk i' j) := (scanDown_end (fun x => !ltInt x A) dk i' j' (.inl hle2)).symm.trans hsd.out
                              go_wp2_with fail
                              go_quiet (fail)
                              have hgt : j' < i' := by omega
                              clear cA hsd hd2 hd2'
                              replace hg := hg.trans (grown_dN wr nq (some g))
                              replace h := h.drewN nq
                              generalize wr.drewN nq = W3 at h hg ⊢
                              have cR := h.cell (j := j') (by omega)
                              have cC := h.cell (j := a) (by omega)
                              have fR := h.free (j')
                              have fC := h.free (a)
                              have hs' := h.swap j' a
                              have hg' := hg.trans (grown_swap _ g (j') (a) (.int .u32 dk[a]!) (.int .u32 dk[j']!))
                              obtain ⟨v3, hy3⟩ := h.alias (j') (j := a) (by omega) (.int .u32 dk[a]!)
                              have hf1 : ((j' : Nat) : Int) < (n : Int) := by omega
                              have hf2 : ((a : Nat) : Int) < (n : Int) := by omega
                              generalize dk[j']! = X1 at cR hs' hg'
                              generalize dk[a]! = Y1 at cC hs' hg' hy3
                              have hdg : decide ((j' : Int) < (i' : Int)) = true := decide_eq_true (by omega)
                              have hbrk := part_break ltInt a i j dk (i2 := i') (j2 := j') (by rw [← HA.out]; exact hi2.out) (by rw [← HA.out]; exact hj2.out) hgt
                              have hpart := HP0.out
                              rw [← HL.out, hbrk] at hpart
                              have HP := (show Hid _ from hpart)
                              clear hpart h hg hbrk
                              go_wp2_with fail
                              go_region
                              all_goals
                                go_wp2
                                go_ret2
                                exact ⟨j', false, _, HP.out, rfl, hs'.drewN 1, hg'.trans (grown_dN _ 1 _)⟩
                        · go_wp2
                          go_roundw
                          case rel => exact ⟨i' + 1, by go_num, by omega, by omega, h.drewN _, hg.trans (grown_dN _ _ _), (scanUp_go (fun x => ltInt x A) dk j i' hle (by show ltInt dk[i']! A = true; rw [← HX.out]; exact hl)).symm.trans hsc.out⟩
                          case measure => simp [intOf] <;> omega
                      · have hd : decide ((i' : Int) ≤ (j : Int)) = false := decide_eq_false (by omega)
                        have hd' : decide (i' ≤ j) = false := decide_eq_false hle
                        have hi2 : Hid (i' = scanUp (fun x => ltInt x A) dk j i) := (scanUp_end (fun x => ltInt x A) dk j i' (.inl hle)).symm.trans hsc.out
                        go_wp2_with fail
                        go_quiet (fail)
                        clear cA hsc hd hd'
                        go_wp2_with fail
                        go_loopw [11] (fun vj w2 => ∃ j' : Nat, vj = .int .i64 j' ∧ j' ≤ j ∧ i' ≤ j' + 1 ∧ SR base g cap n dk w2 ∧ w.grownBy w2 (some g) ∧ Hid (scanDown (fun x => !ltInt x A) dk i' j' = scanDown (fun x => !ltInt x A) dk i' j)) (fun vj _ => (intOf vj).toNat)
                        case atStart => exact ⟨j, rfl, Nat.le_refl _, hij', h.drewN _, hg.trans (grown_dN _ _ _), rfl⟩
                        case round =>
                          clear h hg
                          obtain ⟨j', rfl, hjj, hij2, h, hg, hsd⟩ := hrel
                          have cA := h.cell (j := a) (by omega)
                          rw [← HA.out] at cA
                          have hle2 : ¬ i' ≤ j' := by omega
                          have hd2 : decide ((i' : Int) ≤ (j' : Int)) = false := decide_eq_false (by omega)
                          have hd2' : decide (i' ≤ j') = false := decide_eq_false hle2
                          have hj2 : Hid (j' = scanDown (fun x => !ltInt x A) dk i' j) := (scanDown_end (fun x => !ltInt x A) dk i' j' (.inl hle2)).symm.trans hsd.out
                          go_wp2_with fail
                          go_quiet (fail)
                          have hgt : j' < i' := by omega
                          clear cA hsd hd2 hd2'
                          replace hg := hg.trans (grown_dN wr nq (some g))
                          replace h := h.drewN nq
                          generalize wr.drewN nq = W3 at h hg ⊢
                          have cR := h.cell (j := j') (by omega)
                          have cC := h.cell (j := a) (by omega)
                          have fR := h.free (j')
                          have fC := h.free (a)
                          have hs' := h.swap j' a
                          have hg' := hg.trans (grown_swap _ g (j') (a) (.int .u32 dk[a]!) (.int .u32 dk[j']!))
                          obtain ⟨v3, hy3⟩ := h.alias (j') (j := a) (by omega) (.int .u32 dk[a]!)
                          have hf1 : ((j' : Nat) : Int) < (n : Int) := by omega
                          have hf2 : ((a : Nat) : Int) < (n : Int) := by omega
                          generalize dk[j']! = X1 at cR hs' hg'
                          generalize dk[a]! = Y1 at cC hs' hg' hy3
                          have hdg : decide ((j' : Int) < (i' : Int)) = true := decide_eq_true (by omega)
                          have hbrk := part_break ltInt a i j dk (i2 := i') (j2 := j') (by rw [← HA.out]; exact hi2.out) (by rw [← HA.out]; exact hj2.out) hgt
                          have hpart := HP0.out
                          rw [← HL.out, hbrk] at hpart
                          have HP := (show Hid _ from hpart)
                          clear hpart h hg hbrk
                          go_wp2_with fail
                          go_region
                          all_goals
                            go_wp2
                            go_ret2
                            exact ⟨j', false, _, HP.out, rfl, hs'.drewN 1, hg'.trans (grown_dN _ 1 _)⟩
            · have hd2 : decide ((i' : Int) ≤ (j' : Int)) = false := decide_eq_false (by omega)
              have hd2' : decide (i' ≤ j') = false := decide_eq_false hle2
              have hj2 : Hid (j' = scanDown (fun x => !ltInt x A) dk i' j) := (scanDown_end (fun x => !ltInt x A) dk i' j' (.inl hle2)).symm.trans hsd.out
              go_wp2_with fail
              go_quiet (fail)
              have hgt : j' < i' := by omega
              clear cA hsd hd2 hd2'
              replace hg := hg.trans (grown_dN wr nq (some g))
              replace h := h.drewN nq
              generalize wr.drewN nq = W3 at h hg ⊢
              have cR := h.cell (j := j') (by omega)
              have cC := h.cell (j := a) (by omega)
              have fR := h.free (j')
              have fC := h.free (a)
              have hs' := h.swap j' a
              have hg' := hg.trans (grown_swap _ g (j') (a) (.int .u32 dk[a]!) (.int .u32 dk[j']!))
              obtain ⟨v3, hy3⟩ := h.alias (j') (j := a) (by omega) (.int .u32 dk[a]!)
              have hf1 : ((j' : Nat) : Int) < (n : Int) := by omega
              have hf2 : ((a : Nat) : Int) < (n : Int) := by omega
              generalize dk[j']! = X1 at cR hs' hg'
              generalize dk[a]! = Y1 at cC hs' hg' hy3
              have hdg : decide ((j' : Int) < (i' : Int)) = true := decide_eq_true (by omega)
              have hpart := part_first_break ltInt d a b pivot (i2 := i') (j2 := j') HI.out HJ0.out HD.out (by rw [← HA.out]; exact hi2.out) (by rw [← HA.out]; exact hj2.out) hgt
              have HP := (show Hid _ from hpart)
              clear hpart h hg
              go_wp2_with fail
              go_region
              all_goals
                go_wp2
                go_ret2
                exact ⟨j', true, _, HP.out, rfl, hs'.drewN 1, hg'.trans (grown_dN _ 1 _)⟩
        · go_wp2
          go_roundw
          case rel => exact ⟨i' + 1, by go_num, by omega, by omega, h.drewN _, hg.trans (grown_dN _ _ _), (scanUp_go (fun x => ltInt x A) dk j i' hle (by show ltInt dk[i']! A = true; rw [← HX.out]; exact hl)).symm.trans hsc.out⟩
          case measure => simp [intOf] <;> omega
      · have hd : decide ((i' : Int) ≤ (j : Int)) = false := decide_eq_false (by omega)
        have hd' : decide (i' ≤ j) = false := decide_eq_false hle
        have hi2 : Hid (i' = scanUp (fun x => ltInt x A) dk j i) := (scanUp_end (fun x => ltInt x A) dk j i' (.inl hle)).symm.trans hsc.out
        go_wp2_with fail
        go_quiet (fail)
        clear cA hsc hd hd'
        go_wp2_with fail
        go_loopw [11] (fun vj w2 => ∃ j' : Nat, vj = .int .i64 j' ∧ j' ≤ j ∧ i' ≤ j' + 1 ∧ SR base g cap n dk w2 ∧ w.grownBy w2 (some g) ∧ Hid (scanDown (fun x => !ltInt x A) dk i' j' = scanDown (fun x => !ltInt x A) dk i' j)) (fun vj _ => (intOf vj).toNat)
        case atStart => exact ⟨j, rfl, Nat.le_refl _, hij', h.drewN _, hg.trans (grown_dN _ _ _), rfl⟩
        case round =>
          clear h hg
          obtain ⟨j', rfl, hjj, hij2, h, hg, hsd⟩ := hrel
          have cA := h.cell (j := a) (by omega)
          rw [← HA.out] at cA
          have hle2 : ¬ i' ≤ j' := by omega
          have hd2 : decide ((i' : Int) ≤ (j' : Int)) = false := decide_eq_false (by omega)
          have hd2' : decide (i' ≤ j') = false := decide_eq_false hle2
          have hj2 : Hid (j' = scanDown (fun x => !ltInt x A) dk i' j) := (scanDown_end (fun x => !ltInt x A) dk i' j' (.inl hle2)).symm.trans hsd.out
          go_wp2_with fail
          go_quiet (fail)
          have hgt : j' < i' := by omega
          clear cA hsd hd2 hd2'
          replace hg := hg.trans (grown_dN wr nq (some g))
          replace h := h.drewN nq
          generalize wr.drewN nq = W3 at h hg ⊢
          have cR := h.cell (j := j') (by omega)
          have cC := h.cell (j := a) (by omega)
          have fR := h.free (j')
          have fC := h.free (a)
          have hs' := h.swap j' a
          have hg' := hg.trans (grown_swap _ g (j') (a) (.int .u32 dk[a]!) (.int .u32 dk[j']!))
          obtain ⟨v3, hy3⟩ := h.alias (j') (j := a) (by omega) (.int .u32 dk[a]!)
          have hf1 : ((j' : Nat) : Int) < (n : Int) := by omega
          have hf2 : ((a : Nat) : Int) < (n : Int) := by omega
          generalize dk[j']! = X1 at cR hs' hg'
          generalize dk[a]! = Y1 at cC hs' hg' hy3
          have hdg : decide ((j' : Int) < (i' : Int)) = true := decide_eq_true (by omega)
          have hpart := part_first_break ltInt d a b pivot (i2 := i') (j2 := j') HI.out HJ0.out HD.out (by rw [← HA.out]; exact hi2.out) (by rw [← HA.out]; exact hj2.out) hgt
          have HP := (show Hid _ from hpart)
          clear hpart h hg
          go_wp2_with fail
          go_region
          all_goals
            go_wp2
            go_ret2
            exact ⟨j', true, _, HP.out, rfl, hs'.drewN 1, hg'.trans (grown_dN _ 1 _)⟩
end Go.Proofs.YtakaadcpaeiccabGreat

namespace Go.Proofs.YtakaadcpaeiccabGreat
open Go.RowKit Go.Sort

set_option maxRecDepth 100000 in
set_option maxHeartbeats 12000000 in
theorem partEq_any (base g cap n a b pivot : Nat) (d : Array Int) (w : World) (h : SR base g cap n d w) (hap : a ≤ pivot) (hpb : pivot < b) (hb : b ≤ n) (hn : n ≤ 1000000) :
    Calls Tryz.prog 190 #[.slice (some ⟨g, 0, none⟩) n cap, .int .i64 a, .int .i64 b, .int .i64 pivot] w fun e w' => ∃ (mid : Nat) (d' : Array Int), partitionEqual ltInt d a b pivot = (mid, d') ∧ e = .returned (.int .i64 mid) ∧ SR base g cap n d' w' ∧ w.grownBy w' (some g) := by
  have hg := grn_rfl w (some g)
  obtain ⟨dk, hdk⟩ : ∃ dk, dk = d := ⟨_, rfl⟩
  rw [← hdk] at h
  have cR := h.cell (j := a) (by omega)
  have cC := h.cell (j := pivot) (by omega)
  have fR := h.free (a)
  have fC := h.free (pivot)
  have hs' := h.swap a pivot
  have hg' := hg.trans (grown_swap _ g (a) (pivot) (.int .u32 dk[pivot]!) (.int .u32 dk[a]!))
  obtain ⟨v3, hy3⟩ := h.alias (a) (j := pivot) (by omega) (.int .u32 dk[pivot]!)
  have hf1 : ((a : Nat) : Int) < (n : Int) := by omega
  have hf2 : ((pivot : Nat) : Int) < (n : Int) := by omega
  generalize dk[a]! = X1 at cR hs' hg'
  generalize dk[pivot]! = Y1 at cC hs' hg' hy3
  rw [hdk] at hs'
  clear h hg hdk dk
  go_enter Tryz.func190, Tryz.ntmps190
  go_wp2_with fail
  go_region
  all_goals
    replace hs' := hs'.drewN 1
    replace hg' := hg'.trans (grown_dN _ 1 _)
    clear cR cC fR fC hy3 v3
    have hjq : (b : Int) - 1 = ((b - 1 : Nat) : Int) := by omega
    have HJ := (show Hid _ from hjq)
    clear hjq
    go_wp2_with fail
    go_loopw [9, 10] (fun vi vj wr => ∃ (i j : Nat) (dk : Array Int), vi = .int .i64 i ∧ vj = .int .i64 j ∧ a < i ∧ i ≤ j + 1 ∧ j < b ∧ SR base g cap n dk wr ∧ w.grownBy wr (some g) ∧ partEqLoop ltInt a i j dk = partitionEqual ltInt d a b pivot) (fun vi vj _ => (intOf vj).toNat + 1 - (intOf vi).toNat)
    case atStart => exact ⟨a + 1, b - 1, _, by go_num, by rw [← HJ.out], by omega, by omega, by omega, hs', hg', rfl⟩
    case round =>
      clear hs' hg' hf1 hf2
      obtain ⟨i, j, dk, rfl, rfl, hai, hij, hjb, h, hg, hL⟩ := hrel
      have HL := (show Hid _ from hL)
      clear hL
      obtain ⟨A, hA⟩ : ∃ A, A = dk[a]! := ⟨_, rfl⟩
      have HA := (show Hid _ from hA)
      clear hA
      go_wp2_with fail
      go_loopw [9] (fun vi wr => ∃ i' : Nat, vi = .int .i64 i' ∧ i ≤ i' ∧ i' ≤ j + 1 ∧ SR base g cap n dk wr ∧ w.grownBy wr (some g) ∧ Hid (scanUp (fun x => !ltInt A x) dk j i' = scanUp (fun x => !ltInt A x) dk j i)) (fun vi _ => j + 1 - (intOf vi).toNat)
      case atStart => exact ⟨i, rfl, Nat.le_refl _, hij, h, hg, rfl⟩
      case round =>
        clear h hg
        obtain ⟨i', rfl, hii, hij', h, hg, hsc⟩ := hrel
        have cA := h.cell (j := a) (by omega)
        rw [← HA.out] at cA
        by_cases hle : i' ≤ j
        · have cI := h.cell (j := i') (by omega)
          obtain ⟨X, hX⟩ : ∃ X, X = dk[i']! := ⟨_, rfl⟩
          rw [← hX] at cI
          have HX := (show Hid _ from hX)
          clear hX
          have hin : (i' : Int) < (n : Int) := by omega
          have han : (a : Int) < (n : Int) := by omega
          have hd : decide ((i' : Int) ≤ (j : Int)) = true := decide_eq_true (by omega)
          have hd' : decide (i' ≤ j) = true := decide_eq_true hle
          go_wp2_with fail
          go_quiet (first | (go_at_call 189; refine Calls.quiet_of_same (Less_any _ _ _)))
          cases hl : ltInt A X
          · go_wp2
            go_roundw
            case rel => exact ⟨i' + 1, by go_num, by omega, by omega, h.drewN _, hg.trans (grown_dN _ _ _), (scanUp_go (fun x => !ltInt A x) dk j i' hle (by show (!ltInt A dk[i']!) = true; rw [← HX.out, hl]; rfl)).symm.trans hsc.out⟩
            case measure => simp [intOf] <;> omega
          · have hi2 : Hid (i' = scanUp (fun x => !ltInt A x) dk j i) := (scanUp_end (fun x => !ltInt A x) dk j i' (.inr (by show (!ltInt A dk[i']!) = false; rw [← HX.out, hl]; rfl))).symm.trans hsc.out
            clear cA cI hsc hd hd' HX
            go_wp2_with fail
            go_loopw [10] (fun vj w2 => ∃ j' : Nat, vj = .int .i64 j' ∧ j' ≤ j ∧ i' ≤ j' + 1 ∧ SR base g cap n dk w2 ∧ w.grownBy w2 (some g) ∧ Hid (scanDown (fun x => ltInt A x) dk i' j' = scanDown (fun x => ltInt A x) dk i' j)) (fun vj _ => (intOf vj).toNat)
            case atStart => exact ⟨j, rfl, Nat.le_refl _, hij', h.drewN _, hg.trans (grown_dN _ _ _), rfl⟩
            case round =>
              clear h hg
              obtain ⟨j', rfl, hjj, hij2, h, hg, hsd⟩ := hrel
              have cA := h.cell (j := a) (by omega)
              rw [← HA.out] at cA
              by_cases hle2 : i' ≤ j'
              · have cJ := h.cell (j := j') (by omega)
                obtain ⟨Y, hY⟩ : ∃ Y, Y = dk[j']! := ⟨_, rfl⟩
                rw [← hY] at cJ
                have HY := (show Hid _ from hY)
                clear hY
                have hjn : (j' : Int) < (n : Int) := by omega
                have han : (a : Int) < (n : Int) := by omega
                have hd2 : decide ((i' : Int) ≤ (j' : Int)) = true := decide_eq_true (by omega)
                have hd2' : decide (i' ≤ j') = true := decide_eq_true hle2
                go_wp2_with fail
                go_quiet (first | (go_at_call 189; refine Calls.quiet_of_same (Less_any _ _ _)))
                cases hl2 : ltInt A Y
                · have hj2 : Hid (j' = scanDown (fun x => ltInt A x) dk i' j) := (scanDown_end (fun x => ltInt A x) dk i' j' (.inr (by show ltInt A dk[j']! = false; rw [← HY.out]; exact hl2))).symm.trans hsd.out
                  have hlt3 : i' < j' := scans_lt ltInt a i j dk (i2 := i') (j2 := j') (by omega) (by rw [← HA.out]; exact hi2.out) (by rw [← HA.out]; exact hj2.out) hle2
                  clear cA cJ hsd hd2 hd2' HY hl2
                  replace hg := hg.trans (grown_dN wr nq (some g))
                  replace h := h.drewN nq
                  generalize wr.drewN nq = W3 at h hg ⊢
                  have cR := h.cell (j := i') (by omega)
                  have cC := h.cell (j := j') (by omega)
                  have fR := h.free (i')
                  have fC := h.free (j')
                  have hs' := h.swap i' j'
                  have hg' := hg.trans (grown_swap _ g (i') (j') (.int .u32 dk[j']!) (.int .u32 dk[i']!))
                  obtain ⟨v3, hy3⟩ := h.alias (i') (j := j') (by omega) (.int .u32 dk[j']!)
                  have hf1 : ((i' : Nat) : Int) < (n : Int) := by omega
                  have hf2 : ((j' : Nat) : Int) < (n : Int) := by omega
                  generalize dk[i']! = X1 at cR hs' hg'
                  generalize dk[j']! = Y1 at cC hs' hg' hy3
                  have hdg : decide ((j' : Int) < (i' : Int)) = false := decide_eq_false (by omega)
                  have hgo3 := partEq_go ltInt a i j dk (i2 := i') (j2 := j') (by rw [← HA.out]; exact hi2.out) (by rw [← HA.out]; exact hj2.out) (by omega)
                  rw [HL.out] at hgo3
                  have HG3 := (show Hid _ from hgo3)
                  clear hgo3 h hg
                  have hjq : (j' : Int) - 1 = ((j' - 1 : Nat) : Int) := by omega
                  have HJ := (show Hid _ from hjq)
                  clear hjq
                  go_wp2_with fail
                  go_region
                  all_goals
                    go_wp2
                    go_roundw
                    case rel => exact ⟨i' + 1, j' - 1, _, by go_num, by rw [← HJ.out], by omega, by omega, by omega, hs'.drewN 1, hg'.trans (grown_dN _ 1 _), HG3.out.symm⟩
                    case measure => simp [intOf] <;> omega
                · have hjq : (j' : Int) - 1 = ((j' - 1 : Nat) : Int) := by omega
                  have HJ := (show Hid _ from hjq)
                  clear hjq
                  go_wp2
                  go_roundw
                  case rel => exact ⟨j' - 1, by rw [← HJ.out], by omega, by omega, h.drewN _, hg.trans (grown_dN _ _ _), (scanDown_go (fun x => ltInt A x) dk i' j' hle2 (by omega) (by show ltInt A dk[j']! = true; rw [← HY.out]; exact hl2)).symm.trans hsd.out⟩
                  case measure => simp [intOf] <;> omega
              · have hd2 : decide ((i' : Int) ≤ (j' : Int)) = false := decide_eq_false (by omega)
                have hd2' : decide (i' ≤ j') = false := decide_eq_false hle2
                have hj2 : Hid (j' = scanDown (fun x => ltInt A x) dk i' j) := (scanDown_end (fun x => ltInt A x) dk i' j' (.inl hle2)).symm.trans hsd.out
                go_wp2_with fail
                go_quiet (fail)
                have hgt : j' < i' := by omega
                clear cA hsd hd2 hd2'
                replace hg := hg.trans (grown_dN wr nq (some g))
                replace h := h.drewN nq
                generalize wr.drewN nq = W3 at h hg ⊢
                have hdg : decide ((j' : Int) < (i' : Int)) = true := decide_eq_true (by omega)
                have hbrk := partEq_break ltInt a i j dk (i2 := i') (j2 := j') (by rw [← HA.out]; exact hi2.out) (by rw [← HA.out]; exact hj2.out) hgt
                have hpart := HL.out
                rw [hbrk] at hpart
                have HP := (show Hid _ from hpart)
                clear hpart hbrk
                go_wp2
                go_ret
                exact ⟨i', dk, HP.out.symm, rfl, h, hg⟩
        · have hd : decide ((i' : Int) ≤ (j : Int)) = false := decide_eq_false (by omega)
          have hd' : decide (i' ≤ j) = false := decide_eq_false hle
          have hi2 : Hid (i' = scanUp (fun x => !ltInt A x) dk j i) := (scanUp_end (fun x => !ltInt A x) dk j i' (.inl hle)).symm.trans hsc.out
          go_wp2_with fail
          go_quiet (fail)
          clear cA hsc hd hd'
          go_wp2_with fail
          go_loopw [10] (fun vj w2 => ∃ j' : Nat, vj = .int .i64 j' ∧ j' ≤ j ∧ i' ≤ j' + 1 ∧ SR base g cap n dk w2 ∧ w.grownBy w2 (some g) ∧ Hid (scanDown (fun x => ltInt A x) dk i' j' = scanDown (fun x => ltInt A x) dk i' j)) (fun vj _ => (intOf vj).toNat)
          case atStart => exact ⟨j, rfl, Nat.le_refl _, hij', h.drewN _, hg.trans (grown_dN _ _ _), rfl⟩
          case round =>
            clear h hg
            obtain ⟨j', rfl, hjj, hij2, h, hg, hsd⟩ := hrel
            have cA := h.cell (j := a) (by omega)
            rw [← HA.out] at cA
            have hle2 : ¬ i' ≤ j' := by omega
            have hd2 : decide ((i' : Int) ≤ (j' : Int)) = false := decide_eq_false (by omega)
            have hd2' : decide (i' ≤ j') = false := decide_eq_false hle2
            have hj2 : Hid (j' = scanDown (fun x => ltInt A x) dk i' j) := (scanDown_end (fun x => ltInt A x) dk i' j' (.inl hle2)).symm.trans hsd.out
            go_wp2_with fail
            go_quiet (fail)
            have hgt : j' < i' := by omega
            clear cA hsd hd2 hd2'
            replace hg := hg.trans (grown_dN wr nq (some g))
            replace h := h.drewN nq
            generalize wr.drewN nq = W3 at h hg ⊢
            have hdg : decide ((j' : Int) < (i' : Int)) = true := decide_eq_true (by omega)
            have hbrk := partEq_break ltInt a i j dk (i2 := i') (j2 := j') (by rw [← HA.out]; exact hi2.out) (by rw [← HA.out]; exact hj2.out) hgt
            have hpart := HL.out
            rw [hbrk] at hpart
            have HP := (show Hid _ from hpart)
            clear hpart hbrk
            go_wp2
            go_ret
            exact ⟨i', dk, HP.out.symm, rfl, h, hg⟩
end Go.Proofs.YtakaadcpaeiccabGreat
