import Derived.Test.YtakaadcpaeiccabGreatC12
import Derived.Sort.WalkA6
namespace Go.Proofs.YtakaadcpaeiccabGreat
open Go.RowKit Go.Sort

set_option maxRecDepth 100000 in
set_option maxHeartbeats 12000000 in
theorem partIns_any (base g cap n a b : Nat) (d : Array Int) (w : World) (h : SR base g cap n d w) (hab : a < b) (hb : b ≤ n) (hn : n ≤ 1000000) :
    Calls Tryz.prog 188 #[.slice (some ⟨g, 0, none⟩) n cap, .int .i64 a, .int .i64 b] w fun e w' => ∃ (c : Bool) (d' : Array Int), partialInsertionSort ltInt d a b = (d', c) ∧ e = .returned (.bool c) ∧ SR base g cap n d' w' ∧ w.grownBy w' (some g) := by
  go_enter Tryz.func188, Tryz.ntmps188
  go_wp2_with fail
  go_loopw [7, 8] (fun vi vs wr => ∃ (i s : Nat) (dk : Array Int), vi = .int .i64 i ∧ vs = .int .i64 s ∧ s ≤ 5 ∧ a < i ∧ i ≤ b ∧ SR base g cap n dk wr ∧ w.grownBy wr (some g) ∧ partialIns ltInt a b (5 - s) i dk = partialInsertionSort ltInt d a b) (fun _ vs _ => 5 - (intOf vs).toNat)
  case atStart => exact ⟨a + 1, 0, d, by go_num, rfl, by omega, by omega, by omega, h, grn_rfl _ _, rfl⟩
  case round =>
    clear h
    obtain ⟨i, s, dk, rfl, rfl, hs5, hai, hib, h, hg, hO⟩ := hrel
    have HO := (show Hid _ from hO)
    clear hO
    by_cases hs : s < 5
    · have hds : decide ((s : Int) < 5) = true := decide_eq_true (by omega)
      have hds' : decide (s < 5) = true := decide_eq_true hs
      go_wp2_with fail
      go_loopw [7] (fun vi wr2 => ∃ k : Nat, vi = .int .i64 k ∧ i ≤ k ∧ k ≤ b ∧ SR base g cap n dk wr2 ∧ w.grownBy wr2 (some g) ∧ Hid (scanSorted ltInt dk b k = scanSorted ltInt dk b i)) (fun vi _ => b - (intOf vi).toNat)
      case atStart => exact ⟨i, rfl, Nat.le_refl _, hib, h, hg, rfl⟩
      case round =>
        clear h hg
        obtain ⟨k, rfl, hik, hkb, h, hg, hSc⟩ := hrel
        by_cases hlt : k < b
        · have hix : (k : Int) < (b : Int) := by omega
          have hixd : decide ((k : Int) < (b : Int)) = true := decide_eq_true hix
          have hixd' : decide (k < b) = true := decide_eq_true hlt
          have hgo := scanSorted_go ltInt dk b k hlt
          have hst := scanSorted_stop ltInt dk b k
          have hjn : (k : Int) < (n : Int) := by omega
          have c0 := h.cell (j := k) (by omega)
          have c1 := h.cell (j := k - 1) (by omega)
          have f0 := h.free k
          have f1 := h.free (k - 1)
          have hq : (k : Int) - 1 = ((k - 1 : Nat) : Int) := by omega
          have hJn : ((k - 1 : Nat) : Int) < (n : Int) := by omega
          have hj0 : (0 : Int) ≤ (k : Int) - 1 := by omega
          obtain ⟨X, hX⟩ : ∃ X, dk[k]! = X := ⟨_, rfl⟩
          obtain ⟨Y, hY⟩ : ∃ Y, dk[k - 1]! = Y := ⟨_, rfl⟩
          rw [hX] at c0
          rw [hY] at c1
          have HX := (show Hid _ from hX)
          have HY := (show Hid _ from hY)
          clear hX hY
          generalize hJ : k - 1 = K at c1 f1 hq hJn
          have HJ := (show Hid _ from hJ)
          clear hJ
          rw [HX.out, HY.out] at hgo hst
          have HST := (show Hid _ from hst)
          have HGO := (show Hid _ from hgo)
          clear hst hgo
          go_wp2_with fail
          go_quiet (first | (go_at_call 189; refine Calls.quiet_of_same (Less_any _ _ _)))
          cases hl : ltInt X Y
          · go_wp2
            go_roundw
            case rel => exact ⟨k + 1, by go_num, by omega, by omega, h.drewN _, hg.trans (grown_dN _ _ _), by show _ = _; rw [← hSc.out, HGO.out hl]⟩
            case measure => simp [intOf] <;> omega
          · have hsk : scanSorted ltInt dk b i = k := by rw [← hSc.out, HST.out (.inr hl)]
            have hkne : k ≠ b := by omega
            have heq : ((k : Int) == (b : Int)) = false := by rw [beq_eq_false_iff_ne]; omega
            by_cases h50 : b < a + 50
            · have hd50 : decide ((b : Int) - (a : Int) < 50) = true := decide_eq_true (by omega)
              have hfin := HO.out
              rw [pi_short ltInt a b s i dk hs (by rw [hsk]; exact hkne) (by omega)] at hfin
              have HF := (show Hid _ from hfin)
              clear hfin hsk
              go_wp2
              go_ret
              exact ⟨false, dk, HF.out.symm, rfl, h.drewN _, hg.trans (grown_dN _ _ _)⟩
            · have hd50 : decide ((b : Int) - (a : Int) < 50) = false := decide_eq_false (by omega)
              have hpi := HO.out
              rw [pi_go ltInt a b s i k dk hs hsk hkne (by omega), HJ.out] at hpi
              have HPI := (show Hid _ from hpi)
              clear hpi hsk
              have hs' := (h.drewN (nq + 1)).swap k K
              have hg' := hg.trans ((grown_dN _ (nq + 1) (some g)).trans (grown_swap _ g k K (.int .u32 dk[K]!) (.int .u32 dk[k]!)))
              rw [HX.out, ← HJ.out, HY.out, HJ.out] at hs' hg'
              have hJk : K + 1 = k := by have := HJ.out; omega
              clear HX HY HST HGO hSc
              go_wp2_with fail
              go_region
              all_goals
                clear h hg
                have h := hs'
                have hg := hg'
                clear hs' hg' c0 c1 f0 f1
                generalize World.drewN _ _ = W4 at h hg ⊢
                have HK := HJ
                clear HJ
                by_cases h2a : a + 2 ≤ k
                · have hda : decide ((2 : Int) ≤ (k : Int) - (a : Int)) = true := decide_eq_true (by omega)
                  have hfd : fixDown ltInt a k (swp dk k K) = shiftDown ltInt K (swp dk k K) := by unfold fixDown; rw [if_pos (by omega), HK.out]
                  have HFD := (show Hid _ from hfd)
                  clear hfd
                  go_wp2_with fail
                  go_loopw [9] (fun vj wr2 => ∃ (j : Nat) (dj : Array Int), vj = .int .i64 j ∧ j ≤ K ∧ SR base g cap n dj wr2 ∧ w.grownBy wr2 (some g) ∧ Hid (shiftDown ltInt j dj = shiftDown ltInt K (swp dk k K))) (fun vj _ => (intOf vj).toNat)
                  case atStart => exact ⟨K, _, rfl, Nat.le_refl _, h, hg, rfl⟩
                  case round =>
                    clear h hg
                    obtain ⟨j, dj, rfl, hjK, h, hg, hS⟩ := hrel
                    by_cases hj1 : 1 ≤ j
                    · have hix : decide ((1 : Int) ≤ (j : Int)) = true := decide_eq_true (by omega)
                      have hix' : decide (1 ≤ j) = true := decide_eq_true hj1
                      have hgo := shiftDown_go ltInt j dj hj1
                      have hst := shiftDown_stop ltInt j dj
                      have hjn : (j : Int) < (n : Int) := by omega
                      have c0 := h.cell (j := j) (by omega)
                      have c1 := h.cell (j := j - 1) (by omega)
                      have f0 := h.free j
                      have f1 := h.free (j - 1)
                      have hq : (j : Int) - 1 = ((j - 1 : Nat) : Int) := by omega
                      have hJn : ((j - 1 : Nat) : Int) < (n : Int) := by omega
                      have hj0 : (0 : Int) ≤ (j : Int) - 1 := by omega
                      obtain ⟨X, hX⟩ : ∃ X, dj[j]! = X := ⟨_, rfl⟩
                      obtain ⟨Y, hY⟩ : ∃ Y, dj[j - 1]! = Y := ⟨_, rfl⟩
                      rw [hX] at c0
                      rw [hY] at c1
                      have HX := (show Hid _ from hX)
                      have HY := (show Hid _ from hY)
                      clear hX hY
                      generalize hJ : j - 1 = J at c1 f1 hq hJn
                      have HJ := (show Hid _ from hJ)
                      clear hJ
                      rw [HX.out, HY.out] at hgo hst
                      rw [HJ.out] at hgo
                      have HST := (show Hid _ from hst)
                      have HGO := (show Hid _ from hgo)
                      clear hst hgo
                      go_wp2_with fail
                      go_quiet (first | (go_at_call 189; refine Calls.quiet_of_same (Less_any _ _ _)))
                      cases hl : ltInt X Y
                      · clear c0 c1 f0 f1 HX HY
                        obtain ⟨d2, hd2e⟩ : ∃ d2, d2 = dj := ⟨_, rfl⟩
                        have hfd : d2 = fixDown ltInt a k (swp dk k K) := by rw [hd2e]; exact by rw [HFD.out, ← hS.out, HST.out (.inr hl)]
                        have HD2 := (show Hid _ from hfd)
                        rw [← hd2e] at h
                        clear hfd hd2e
                        replace hg := hg.trans (grown_dN wr nq (some g))
                        replace h := h.drewN nq
                        generalize wr.drewN nq = W5 at h hg ⊢
                        by_cases h2b : k + 2 ≤ b
                        · have hdb : decide ((2 : Int) ≤ (b : Int) - (k : Int)) = true := decide_eq_true (by omega)
                          have hfu : fixUp ltInt b k d2 = shiftUp ltInt b (k + 1) d2 := by unfold fixUp; rw [if_pos (by omega)]
                          have HFU := (show Hid _ from hfu)
                          clear hfu
                          go_wp2_with fail
                          go_loopw [10] (fun vj wr2 => ∃ (j : Nat) (dj : Array Int), vj = .int .i64 j ∧ k + 1 ≤ j ∧ j ≤ b ∧ SR base g cap n dj wr2 ∧ w.grownBy wr2 (some g) ∧ Hid (shiftUp ltInt b j dj = shiftUp ltInt b (k + 1) d2)) (fun vj _ => b - (intOf vj).toNat)
                          case atStart => exact ⟨k + 1, d2, by go_num, Nat.le_refl _, by omega, h, hg, rfl⟩
                          case round =>
                            clear h hg
                            obtain ⟨j, dj, rfl, hj1, hjb, h, hg, hS⟩ := hrel
                            by_cases hlt : j < b
                            · have hix : (j : Int) < (b : Int) := by omega
                              have hgo := shiftUp_go ltInt b j dj hlt
                              have hst := shiftUp_stop ltInt b j dj
                              have hjn : (j : Int) < (n : Int) := by omega
                              have c0 := h.cell (j := j) (by omega)
                              have c1 := h.cell (j := j - 1) (by omega)
                              have f0 := h.free j
                              have f1 := h.free (j - 1)
                              have hq : (j : Int) - 1 = ((j - 1 : Nat) : Int) := by omega
                              have hJn : ((j - 1 : Nat) : Int) < (n : Int) := by omega
                              have hj0 : (0 : Int) ≤ (j : Int) - 1 := by omega
                              obtain ⟨X, hX⟩ : ∃ X, dj[j]! = X := ⟨_, rfl⟩
                              obtain ⟨Y, hY⟩ : ∃ Y, dj[j - 1]! = Y := ⟨_, rfl⟩
                              rw [hX] at c0
                              rw [hY] at c1
                              have HX := (show Hid _ from hX)
                              have HY := (show Hid _ from hY)
                              clear hX hY
                              generalize hJ : j - 1 = J at c1 f1 hq hJn
                              have HJ := (show Hid _ from hJ)
                              clear hJ
                              rw [HX.out, HY.out] at hgo hst
                              rw [HJ.out] at hgo
                              have HST := (show Hid _ from hst)
                              have HGO := (show Hid _ from hgo)
                              clear hst hgo
                              go_wp2_with fail
                              go_quiet (first | (go_at_call 189; refine Calls.quiet_of_same (Less_any _ _ _)))
                              cases hl : ltInt X Y
                              · clear c0 c1 f0 f1 HX HY
                                have hfin : dj = fixUp ltInt b k d2 := by rw [HFU.out, ← hS.out, HST.out (.inr hl)]
                                have hnext := HPI.out
                                rw [← HD2.out, ← hfin] at hnext
                                have HN := (show Hid _ from hnext)
                                clear hfin hnext
                                go_wp2
                                go_roundw
                                case rel => exact ⟨k, s + 1, dj, rfl, by go_num, by omega, by omega, by omega, h.drewN _, hg.trans (grown_dN _ _ _), HN.out⟩
                                case measure => simp [intOf] <;> omega
                              · have hs' := (h.drewN (nq + 1)).swap j J
                                have hg' := hg.trans ((grown_dN _ (nq + 1) (some g)).trans (grown_swap _ g j J (.int .u32 dj[J]!) (.int .u32 dj[j]!)))
                                rw [HX.out, ← HJ.out, HY.out, HJ.out] at hs' hg'
                                have hJj : J + 1 = j := by have := HJ.out; omega
                                clear HX HY
                                go_wp2_with fail
                                go_region
                                all_goals go_wp2
                                go_roundw
                                case rel => exact ⟨j + 1, swp dj j J, by go_num, by omega, by omega, hs', hg', by show _ = _; rw [← hS.out, HGO.out hl]⟩
                                case measure => simp [intOf] <;> omega
                            · have hix : decide ((j : Int) < (b : Int)) = false := decide_eq_false (by omega)
                              have hst := shiftUp_stop ltInt b j dj (.inl hlt)
                              have HST := (show Hid _ from hst)
                              clear hst
                              have hfin : dj = fixUp ltInt b k d2 := by rw [HFU.out, ← hS.out, HST.out]
                              have hnext := HPI.out
                              rw [← HD2.out, ← hfin] at hnext
                              have HN := (show Hid _ from hnext)
                              clear hfin hnext
                              go_wp2
                              go_roundw
                              case rel => exact ⟨k, s + 1, dj, rfl, by go_num, by omega, by omega, by omega, h, hg, HN.out⟩
                              case measure => simp [intOf] <;> omega
                        · have hdb : decide ((2 : Int) ≤ (b : Int) - (k : Int)) = false := decide_eq_false (by omega)
                          have hfin : d2 = fixUp ltInt b k d2 := by unfold fixUp; rw [if_neg (by omega)]
                          have hnext := HPI.out
                          rw [← HD2.out, ← hfin] at hnext
                          have HN := (show Hid _ from hnext)
                          clear hfin hnext
                          go_wp2
                          go_roundw
                          case rel => exact ⟨k, s + 1, d2, rfl, by go_num, by omega, by omega, by omega, h, hg, HN.out⟩
                          case measure => simp [intOf] <;> omega
                      · have hs' := (h.drewN (nq + 1)).swap j J
                        have hg' := hg.trans ((grown_dN _ (nq + 1) (some g)).trans (grown_swap _ g j J (.int .u32 dj[J]!) (.int .u32 dj[j]!)))
                        rw [HX.out, ← HJ.out, HY.out, HJ.out] at hs' hg'
                        have hJj : J + 1 = j := by have := HJ.out; omega
                        clear HX HY
                        go_wp2_with fail
                        go_region
                        all_goals go_wp2
                        go_roundw
                        case rel => exact ⟨J, swp dj j J, rfl, by omega, hs', hg', by show _ = _; rw [← hS.out, HGO.out hl]⟩
                        case measure => simp [intOf] <;> omega
                    · have hix : decide ((1 : Int) ≤ (j : Int)) = false := decide_eq_false (by omega)
                      have hix' : decide (1 ≤ j) = false := decide_eq_false hj1
                      have hst := shiftDown_stop ltInt j dj (.inl (by omega))
                      have HST := (show Hid _ from hst)
                      clear hst
                      obtain ⟨d2, hd2e⟩ : ∃ d2, d2 = dj := ⟨_, rfl⟩
                      have hfd : d2 = fixDown ltInt a k (swp dk k K) := by rw [hd2e]; exact by rw [HFD.out, ← hS.out, HST.out]
                      have HD2 := (show Hid _ from hfd)
                      rw [← hd2e] at h
                      clear hfd hd2e
                      by_cases h2b : k + 2 ≤ b
                      · have hdb : decide ((2 : Int) ≤ (b : Int) - (k : Int)) = true := decide_eq_true (by omega)
                        have hfu : fixUp ltInt b k d2 = shiftUp ltInt b (k + 1) d2 := by unfold fixUp; rw [if_pos (by omega)]
                        have HFU := (show Hid _ from hfu)
                        clear hfu
                        go_wp2_with fail
                        go_loopw [10] (fun vj wr2 => ∃ (j : Nat) (dj : Array Int), vj = .int .i64 j ∧ k + 1 ≤ j ∧ j ≤ b ∧ SR base g cap n dj wr2 ∧ w.grownBy wr2 (some g) ∧ Hid (shiftUp ltInt b j dj = shiftUp ltInt b (k + 1) d2)) (fun vj _ => b - (intOf vj).toNat)
                        case atStart => exact ⟨k + 1, d2, by go_num, Nat.le_refl _, by omega, h, hg, rfl⟩
                        case round =>
                          clear h hg
                          obtain ⟨j, dj, rfl, hj1, hjb, h, hg, hS⟩ := hrel
                          by_cases hlt : j < b
                          · have hix : (j : Int) < (b : Int) := by omega
                            have hgo := shiftUp_go ltInt b j dj hlt
                            have hst := shiftUp_stop ltInt b j dj
                            have hjn : (j : Int) < (n : Int) := by omega
                            have c0 := h.cell (j := j) (by omega)
                            have c1 := h.cell (j := j - 1) (by omega)
                            have f0 := h.free j
                            have f1 := h.free (j - 1)
                            have hq : (j : Int) - 1 = ((j - 1 : Nat) : Int) := by omega
                            have hJn : ((j - 1 : Nat) : Int) < (n : Int) := by omega
                            have hj0 : (0 : Int) ≤ (j : Int) - 1 := by omega
                            obtain ⟨X, hX⟩ : ∃ X, dj[j]! = X := ⟨_, rfl⟩
                            obtain ⟨Y, hY⟩ : ∃ Y, dj[j - 1]! = Y := ⟨_, rfl⟩
                            rw [hX] at c0
                            rw [hY] at c1
                            have HX := (show Hid _ from hX)
                            have HY := (show Hid _ from hY)
                            clear hX hY
                            generalize hJ : j - 1 = J at c1 f1 hq hJn
                            have HJ := (show Hid _ from hJ)
                            clear hJ
                            rw [HX.out, HY.out] at hgo hst
                            rw [HJ.out] at hgo
                            have HST := (show Hid _ from hst)
                            have HGO := (show Hid _ from hgo)
                            clear hst hgo
                            go_wp2_with fail
                            go_quiet (first | (go_at_call 189; refine Calls.quiet_of_same (Less_any _ _ _)))
                            cases hl : ltInt X Y
                            · clear c0 c1 f0 f1 HX HY
                              have hfin : dj = fixUp ltInt b k d2 := by rw [HFU.out, ← hS.out, HST.out (.inr hl)]
                              have hnext := HPI.out
                              rw [← HD2.out, ← hfin] at hnext
                              have HN := (show Hid _ from hnext)
                              clear hfin hnext
                              go_wp2
                              go_roundw
                              case rel => exact ⟨k, s + 1, dj, rfl, by go_num, by omega, by omega, by omega, h.drewN _, hg.trans (grown_dN _ _ _), HN.out⟩
                              case measure => simp [intOf] <;> omega
                            · have hs' := (h.drewN (nq + 1)).swap j J
                              have hg' := hg.trans ((grown_dN _ (nq + 1) (some g)).trans (grown_swap _ g j J (.int .u32 dj[J]!) (.int .u32 dj[j]!)))
                              rw [HX.out, ← HJ.out, HY.out, HJ.out] at hs' hg'
                              have hJj : J + 1 = j := by have := HJ.out; omega
                              clear HX HY
                              go_wp2_with fail
                              go_region
                              all_goals go_wp2
                              go_roundw
                              case rel => exact ⟨j + 1, swp dj j J, by go_num, by omega, by omega, hs', hg', by show _ = _; rw [← hS.out, HGO.out hl]⟩
                              case measure => simp [intOf] <;> omega
                          · have hix : decide ((j : Int) < (b : Int)) = false := decide_eq_false (by omega)
                            have hst := shiftUp_stop ltInt b j dj (.inl hlt)
                            have HST := (show Hid _ from hst)
                            clear hst
                            have hfin : dj = fixUp ltInt b k d2 := by rw [HFU.out, ← hS.out, HST.out]
                            have hnext := HPI.out
                            rw [← HD2.out, ← hfin] at hnext
                            have HN := (show Hid _ from hnext)
                            clear hfin hnext
                            go_wp2
                            go_roundw
                            case rel => exact ⟨k, s + 1, dj, rfl, by go_num, by omega, by omega, by omega, h, hg, HN.out⟩
                            case measure => simp [intOf] <;> omega
                      · have hdb : decide ((2 : Int) ≤ (b : Int) - (k : Int)) = false := decide_eq_false (by omega)
                        have hfin : d2 = fixUp ltInt b k d2 := by unfold fixUp; rw [if_neg (by omega)]
                        have hnext := HPI.out
                        rw [← HD2.out, ← hfin] at hnext
                        have HN := (show Hid _ from hnext)
                        clear hfin hnext
                        go_wp2
                        go_roundw
                        case rel => exact ⟨k, s + 1, d2, rfl, by go_num, by omega, by omega, by omega, h, hg, HN.out⟩
                        case measure => simp [intOf] <;> omega
                · have hda : decide ((2 : Int) ≤ (k : Int) - (a : Int)) = false := decide_eq_false (by omega)
                  obtain ⟨d2, hd2e⟩ : ∃ d2, d2 = swp dk k K := ⟨_, rfl⟩
                  have hfd : d2 = fixDown ltInt a k (swp dk k K) := by rw [hd2e]; exact by unfold fixDown; rw [if_neg (by omega)]
                  have HD2 := (show Hid _ from hfd)
                  rw [← hd2e] at h
                  clear hfd hd2e
                  by_cases h2b : k + 2 ≤ b
                  · have hdb : decide ((2 : Int) ≤ (b : Int) - (k : Int)) = true := decide_eq_true (by omega)
                    have hfu : fixUp ltInt b k d2 = shiftUp ltInt b (k + 1) d2 := by unfold fixUp; rw [if_pos (by omega)]
                    have HFU := (show Hid _ from hfu)
                    clear hfu
                    go_wp2_with fail
                    go_loopw [10] (fun vj wr2 => ∃ (j : Nat) (dj : Array Int), vj = .int .i64 j ∧ k + 1 ≤ j ∧ j ≤ b ∧ SR base g cap n dj wr2 ∧ w.grownBy wr2 (some g) ∧ Hid (shiftUp ltInt b j dj = shiftUp ltInt b (k + 1) d2)) (fun vj _ => b - (intOf vj).toNat)
                    case atStart => exact ⟨k + 1, d2, by go_num, Nat.le_refl _, by omega, h, hg, rfl⟩
                    case round =>
                      clear h hg
                      obtain ⟨j, dj, rfl, hj1, hjb, h, hg, hS⟩ := hrel
                      by_cases hlt : j < b
                      · have hix : (j : Int) < (b : Int) := by omega
                        have hgo := shiftUp_go ltInt b j dj hlt
                        have hst := shiftUp_stop ltInt b j dj
                        have hjn : (j : Int) < (n : Int) := by omega
                        have c0 := h.cell (j := j) (by omega)
                        have c1 := h.cell (j := j - 1) (by omega)
                        have f0 := h.free j
                        have f1 := h.free (j - 1)
                        have hq : (j : Int) - 1 = ((j - 1 : Nat) : Int) := by omega
                        have hJn : ((j - 1 : Nat) : Int) < (n : Int) := by omega
                        have hj0 : (0 : Int) ≤ (j : Int) - 1 := by omega
                        obtain ⟨X, hX⟩ : ∃ X, dj[j]! = X := ⟨_, rfl⟩
                        obtain ⟨Y, hY⟩ : ∃ Y, dj[j - 1]! = Y := ⟨_, rfl⟩
                        rw [hX] at c0
                        rw [hY] at c1
                        have HX := (show Hid _ from hX)
                        have HY := (show Hid _ from hY)
                        clear hX hY
                        generalize hJ : j - 1 = J at c1 f1 hq hJn
                        have HJ := (show Hid _ from hJ)
                        clear hJ
                        rw [HX.out, HY.out] at hgo hst
                        rw [HJ.out] at hgo
                        have HST := (show Hid _ from hst)
                        have HGO := (show Hid _ from hgo)
                        clear hst hgo
                        go_wp2_with fail
                        go_quiet (first | (go_at_call 189; refine Calls.quiet_of_same (Less_any _ _ _)))
                        cases hl : ltInt X Y
                        · clear c0 c1 f0 f1 HX HY
                          have hfin : dj = fixUp ltInt b k d2 := by rw [HFU.out, ← hS.out, HST.out (.inr hl)]
                          have hnext := HPI.out
                          rw [← HD2.out, ← hfin] at hnext
                          have HN := (show Hid _ from hnext)
                          clear hfin hnext
                          go_wp2
                          go_roundw
                          case rel => exact ⟨k, s + 1, dj, rfl, by go_num, by omega, by omega, by omega, h.drewN _, hg.trans (grown_dN _ _ _), HN.out⟩
                          case measure => simp [intOf] <;> omega
                        · have hs' := (h.drewN (nq + 1)).swap j J
                          have hg' := hg.trans ((grown_dN _ (nq + 1) (some g)).trans (grown_swap _ g j J (.int .u32 dj[J]!) (.int .u32 dj[j]!)))
                          rw [HX.out, ← HJ.out, HY.out, HJ.out] at hs' hg'
                          have hJj : J + 1 = j := by have := HJ.out; omega
                          clear HX HY
                          go_wp2_with fail
                          go_region
                          all_goals go_wp2
                          go_roundw
                          case rel => exact ⟨j + 1, swp dj j J, by go_num, by omega, by omega, hs', hg', by show _ = _; rw [← hS.out, HGO.out hl]⟩
                          case measure => simp [intOf] <;> omega
                      · have hix : decide ((j : Int) < (b : Int)) = false := decide_eq_false (by omega)
                        have hst := shiftUp_stop ltInt b j dj (.inl hlt)
                        have HST := (show Hid _ from hst)
                        clear hst
                        have hfin : dj = fixUp ltInt b k d2 := by rw [HFU.out, ← hS.out, HST.out]
                        have hnext := HPI.out
                        rw [← HD2.out, ← hfin] at hnext
                        have HN := (show Hid _ from hnext)
                        clear hfin hnext
                        go_wp2
                        go_roundw
                        case rel => exact ⟨k, s + 1, dj, rfl, by go_num, by omega, by omega, by omega, h, hg, HN.out⟩
                        case measure => simp [intOf] <;> omega
                  · have hdb : decide ((2 : Int) ≤ (b : Int) - (k : Int)) = false := decide_eq_false (by omega)
                    have hfin : d2 = fixUp ltInt b k d2 := by unfold fixUp; rw [if_neg (by omega)]
                    have hnext := HPI.out
                    rw [← HD2.out, ← hfin] at hnext
                    have HN := (show Hid _ from hnext)
                    clear hfin hnext
                    go_wp2
                    go_roundw
                    case rel => exact ⟨k, s + 1, d2, rfl, by go_num, by omega, by omega, by omega, h, hg, HN.out⟩
                    case measure => simp [intOf] <;> omega
        · obtain rfl : k = b := by omega
          have hsk : scanSorted ltInt dk k i = k := by rw [← hSc.out]; exact scanSorted_stop ltInt dk k k (.inl (by omega))
          have hfin := HO.out
          rw [pi_true ltInt a k s i dk hs hsk] at hfin
          have HF := (show Hid _ from hfin)
          clear hfin hsk
          have hix : decide ((k : Int) < (k : Int)) = false := decide_eq_false (by omega)
          go_wp2_with fail
          go_quiet (fail)
          go_wp2
          go_ret
          exact ⟨true, dk, HF.out.symm, rfl, h.drewN _, hg.trans (grown_dN _ _ _)⟩
    · obtain rfl : s = 5 := by omega
      have hfin := HO.out
      rw [pi_end] at hfin
      have HF := (show Hid _ from hfin)
      clear hfin HO
      go_wp2
      go_ret
      exact ⟨false, dk, HF.out.symm, rfl, h, hg⟩
end Go.Proofs.YtakaadcpaeiccabGreat
