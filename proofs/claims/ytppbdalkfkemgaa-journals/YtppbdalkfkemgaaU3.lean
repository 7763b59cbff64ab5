import Derived.Test.YtppbdalkfkemgaaU1
namespace Go.Proofs.Ytppbdalkfkemgaa
open Go.RowKit Go.Sort

theorem uDown_end (hi first root : Nat) (d : Array Int) (h : ¬ 2 * root + 1 < hi) : siftDown ltInt hi first root d = d := by
  rw [siftDown, dif_pos (by omega)]
/-- The greater of the two below. -/
def chd (hi first root : Nat) (d : Array Int) : Nat := if 2 * root + 1 + 1 < hi ∧ ltInt d[first + (2 * root + 1)]! d[first + (2 * root + 1) + 1]! = true then 2 * root + 2 else 2 * root + 1
theorem chd_b (hi first root : Nat) (d : Array Int) (h : 2 * root + 1 < hi) : root < chd hi first root d ∧ chd hi first root d < hi := by
  unfold chd
  split <;> omega
theorem uDown_go (hi first root : Nat) (d : Array Int) (h : 2 * root + 1 < hi) :
    siftDown ltInt hi first root d = if ltInt d[first + root]! d[first + chd hi first root d]! = true then siftDown ltInt hi first (chd hi first root d) (swp d (first + root) (first + chd hi first root d)) else d := by
  rw [siftDown, dif_neg (by omega)]
  unfold chd
  by_cases h1 : 2 * root + 1 + 1 < hi ∧ ltInt d[first + (2 * root + 1)]! d[first + (2 * root + 1) + 1]! = true
  · rw [if_pos h1, if_pos (by simp [h1.1, h1.2])]
    cases h2 : ltInt d[first + root]! d[first + (2 * root + 2)]!
    · simp
    · simp only [Bool.not_true, Bool.false_eq_true, if_false, if_true]
      rw [dif_pos (by omega)]
  · rw [if_neg h1, if_neg (by simpa using h1)]
    cases h2 : ltInt d[first + root]! d[first + (2 * root + 1)]! <;> simp

set_option maxRecDepth 100000 in
set_option maxHeartbeats 4000000 in
theorem siftDown_any (base g cap n lo hi first : Nat) (d : Array Int) (w : World) (h : SR base g cap n d w) (hb : first + hi ≤ n) (hlo : lo ≤ n) (hn : n ≤ 1000000) :
    Calls Try.prog 129 #[.slice (some ⟨g, 0, none⟩) n cap, .int .i64 lo, .int .i64 hi, .int .i64 first] w fun e w' => e = .returned (.tuple #[]) ∧ SR base g cap n (siftDown ltInt hi first lo d) w' ∧ w.grownBy w' (some g) := by
  go_enter Try.func129, Try.ntmps129
  go_wp2_with fail
  go_loopw [8] (fun vr wr => ∃ (r : Nat) (dk : Array Int), vr = .int .i64 r ∧ r ≤ n ∧ SR base g cap n dk wr ∧ w.grownBy wr (some g) ∧ siftDown ltInt hi first r dk = siftDown ltInt hi first lo d) (fun vr _ => 2 * n - (intOf vr).toNat)
  case atStart => exact ⟨lo, d, rfl, hlo, h, grn_rfl _ _, rfl⟩
  case round =>
    clear h
    obtain ⟨r, dk, rfl, hr, h, hg, hO⟩ := hrel
    have HO := (show Hid _ from hO)
    clear hO
    by_cases hlt : 2 * r + 1 < hi
    · have hgo := uDown_go hi first r dk hlt
      obtain ⟨hc1, hc2⟩ := chd_b hi first r dk hlt
      have hd1 : decide ((hi : Int) ≤ 2 * (r : Int) + 1) = false := decide_eq_false (by omega)
      obtain ⟨C0, hC0⟩ : ∃ C0, C0 = 2 * r + 1 := ⟨_, rfl⟩
      have hq : 2 * (r : Int) + 1 = (C0 : Int) := by omega
      have hC1 : C0 < hi := by omega
      have hC2 : r < C0 := by omega
      rw [hq] at hd1
      have hcd : chd hi first r dk = if C0 + 1 < hi ∧ ltInt dk[first + C0]! dk[first + C0 + 1]! = true then C0 + 1 else C0 := by
        unfold chd
        subst hC0
        rfl
      clear hC0
      have cA := h.cell (j := first + C0) (by omega)
      have hfA : (first : Int) + (C0 : Int) < (n : Int) := by omega
      by_cases h2 : C0 + 1 < hi
      · have hd2 : decide ((C0 : Int) + 1 < (hi : Int)) = true := decide_eq_true (by omega)
        have hd2' : decide (C0 + 1 < hi) = true := decide_eq_true h2
        have cB := h.cell (j := first + C0 + 1) (by omega)
        have hfB : (first : Int) + (C0 : Int) + 1 < (n : Int) := by omega
        generalize dk[first + C0]! = P at cA hcd
        generalize dk[first + C0 + 1]! = Q at cB hcd
        have HCD := (show Hid _ from hcd)
        have HGO0 := (show Hid _ from hgo)
        clear hcd hgo
        go_wp2_with fail
        go_quiet (first | (go_at_call 107; refine Calls.quiet_of_same (Less_any _ _ _)))
        have hcd := HCD.out
        have hgo := HGO0.out
        cases hlt1 : ltInt P Q
        · have hchd : chd hi first r dk = C0 := by rw [hcd, if_neg (by simp [hlt1])]
          clear hcd HCD HGO0
          rw [hchd] at hc1 hc2
          have h1 := h.drewN nq
          have hg1 := hg.trans (grown_dN wr nq (some g))
          generalize wr.drewN nq = W1 at h1 hg1 ⊢
          clear h hg cA cB
          have cR := h1.cell (j := first + r) (by omega)
          have cC := h1.cell (j := first + C0) (by omega)
          have fR := h1.free (first + r)
          have fC := h1.free (first + C0)
          rw [hchd] at hgo
          have hs' := fun q => (h1.drewN q).swap (first + r) (first + C0)
          have hg' := fun q => hg1.trans ((grown_dN W1 q (some g)).trans (grown_swap _ g (first + r) (first + C0) (.int .u32 dk[first + C0]!) (.int .u32 dk[first + r]!)))
          generalize dk[first + r]! = X at cR hgo hs' hg'
          generalize dk[first + C0]! = Y at cC hgo hs' hg'
          have hfr : (first : Int) + (r : Int) < (n : Int) := by omega
          have hfc : (first : Int) + (C0 : Int) < (n : Int) := by omega
          have HGO := (show Hid _ from hgo)
          clear hgo hchd
          go_wp2_with fail
          go_quiet (first | (go_at_call 107; refine Calls.quiet_of_same (Less_any _ _ _)))
          cases hl : ltInt X Y
          · have hend := HGO.out
            rw [hl] at hend
            simp only [Bool.false_eq_true, if_false] at hend
            rw [HO.out] at hend
            rw [← hend] at h1
            go_wp2
            go_returns
            exact ⟨rfl, h1.drewN _, hg1.trans (grown_dN _ _ _)⟩
          · have hend := HGO.out
            rw [hl, HO.out] at hend
            simp only [if_true] at hend
            replace hs' := hs' (nq + 1)
            replace hg' := hg' (nq + 1)
            go_wp2_with fail
            go_region
            all_goals go_wp2
            go_roundw
            case rel => exact ⟨C0, swp dk (first + r) (first + C0), by first | rfl | (congr 1; omega), by omega, hs', hg', hend.symm⟩
            case measure => simp [intOf]; omega
        · have hchd : chd hi first r dk = C0 + 1 := by rw [hcd, if_pos ⟨h2, hlt1⟩]
          clear hcd HCD HGO0
          obtain ⟨c, hc⟩ : ∃ c, c = C0 + 1 := ⟨_, rfl⟩
          have hcc : (C0 : Int) + 1 = (c : Int) := by omega
          rw [← hc] at hchd
          rw [hchd] at hc1 hc2
          have hc3 : c < hi := by omega
          clear hc
          have h1 := h.drewN nq
          have hg1 := hg.trans (grown_dN wr nq (some g))
          generalize wr.drewN nq = W1 at h1 hg1 ⊢
          clear h hg cA cB
          have cR := h1.cell (j := first + r) (by omega)
          have cC := h1.cell (j := first + c) (by omega)
          have fR := h1.free (first + r)
          have fC := h1.free (first + c)
          rw [hchd] at hgo
          have hs' := fun q => (h1.drewN q).swap (first + r) (first + c)
          have hg' := fun q => hg1.trans ((grown_dN W1 q (some g)).trans (grown_swap _ g (first + r) (first + c) (.int .u32 dk[first + c]!) (.int .u32 dk[first + r]!)))
          generalize dk[first + r]! = X at cR hgo hs' hg'
          generalize dk[first + c]! = Y at cC hgo hs' hg'
          have hfr : (first : Int) + (r : Int) < (n : Int) := by omega
          have hfc : (first : Int) + (c : Int) < (n : Int) := by omega
          have HGO := (show Hid _ from hgo)
          clear hgo hchd
          go_wp2_with fail
          go_quiet (first | (go_at_call 107; refine Calls.quiet_of_same (Less_any _ _ _)))
          cases hl : ltInt X Y
          · have hend := HGO.out
            rw [hl] at hend
            simp only [Bool.false_eq_true, if_false] at hend
            rw [HO.out] at hend
            rw [← hend] at h1
            go_wp2
            go_returns
            exact ⟨rfl, h1.drewN _, hg1.trans (grown_dN _ _ _)⟩
          · have hend := HGO.out
            rw [hl, HO.out] at hend
            simp only [if_true] at hend
            replace hs' := hs' (nq + 1)
            replace hg' := hg' (nq + 1)
            go_wp2_with fail
            go_region
            all_goals go_wp2
            go_roundw
            case rel => exact ⟨c, swp dk (first + r) (first + c), by first | rfl | (congr 1; omega), by omega, hs', hg', hend.symm⟩
            case measure => simp [intOf]; omega
      · have hd2 : decide ((C0 : Int) + 1 < (hi : Int)) = false := decide_eq_false (by omega)
        have hd2' : decide (C0 + 1 < hi) = false := decide_eq_false h2
        have cB := cA
        have hchd : chd hi first r dk = C0 := by rw [hcd, if_neg (fun e => h2 e.1)]
        have HGO0 := (show Hid _ from hgo)
        have HCH := (show Hid _ from hchd)
        clear hcd hgo hchd
        go_wp2_with fail
        go_quiet (first | (go_at_call 107; refine Calls.quiet_of_same (Less_any _ _ _)))
        have hgo := HGO0.out
        have hchd := HCH.out
        clear HGO0 HCH
        rw [hchd] at hc1 hc2
        have h1 := h.drewN nq
        have hg1 := hg.trans (grown_dN wr nq (some g))
        generalize wr.drewN nq = W1 at h1 hg1 ⊢
        clear h hg cA cB
        have cR := h1.cell (j := first + r) (by omega)
        have cC := h1.cell (j := first + C0) (by omega)
        have fR := h1.free (first + r)
        have fC := h1.free (first + C0)
        rw [hchd] at hgo
        have hs' := fun q => (h1.drewN q).swap (first + r) (first + C0)
        have hg' := fun q => hg1.trans ((grown_dN W1 q (some g)).trans (grown_swap _ g (first + r) (first + C0) (.int .u32 dk[first + C0]!) (.int .u32 dk[first + r]!)))
        generalize dk[first + r]! = X at cR hgo hs' hg'
        generalize dk[first + C0]! = Y at cC hgo hs' hg'
        have hfr : (first : Int) + (r : Int) < (n : Int) := by omega
        have hfc : (first : Int) + (C0 : Int) < (n : Int) := by omega
        have HGO := (show Hid _ from hgo)
        clear hgo hchd
        go_wp2_with fail
        go_quiet (first | (go_at_call 107; refine Calls.quiet_of_same (Less_any _ _ _)))
        cases hl : ltInt X Y
        · have hend := HGO.out
          rw [hl] at hend
          simp only [Bool.false_eq_true, if_false] at hend
          rw [HO.out] at hend
          rw [← hend] at h1
          go_wp2
          go_returns
          exact ⟨rfl, h1.drewN _, hg1.trans (grown_dN _ _ _)⟩
        · have hend := HGO.out
          rw [hl, HO.out] at hend
          simp only [if_true] at hend
          replace hs' := hs' (nq + 1)
          replace hg' := hg' (nq + 1)
          go_wp2_with fail
          go_region
          all_goals go_wp2
          go_roundw
          case rel => exact ⟨C0, swp dk (first + r) (first + C0), by first | rfl | (congr 1; omega), by omega, hs', hg', hend.symm⟩
          case measure => simp [intOf]; omega
    · have hend : siftDown ltInt hi first r dk = dk := uDown_end hi first r dk hlt
      rw [HO.out] at hend
      rw [← hend] at h
      have hd1 : decide ((hi : Int) ≤ 2 * (r : Int) + 1) = true := decide_eq_true (by omega)
      go_wp2
      go_returns
      exact ⟨rfl, h, hg⟩
end Go.Proofs.Ytppbdalkfkemgaa
