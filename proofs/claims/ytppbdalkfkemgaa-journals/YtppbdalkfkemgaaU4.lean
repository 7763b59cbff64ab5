import Derived.Test.YtppbdalkfkemgaaU3
namespace Go.Proofs.Ytppbdalkfkemgaa
open Go.RowKit Go.Sort

set_option maxRecDepth 100000 in
set_option maxHeartbeats 4000000 in
theorem heapSort_any (base g cap n a b : Nat) (d : Array Int) (w : World) (h : SR base g cap n d w) (hab : a < b) (hb : b ≤ n) (hn : n ≤ 1000000) :
    Calls Try.prog 119 #[.slice (some ⟨g, 0, none⟩) n cap, .int .i64 a, .int .i64 b] w fun e w' => e = .returned (.tuple #[]) ∧ SR base g cap n (heapSort ltInt d a b) w' ∧ w.grownBy w' (some g) := by
  obtain ⟨H, hH⟩ : ∃ H, H = b - a := ⟨_, rfl⟩
  obtain ⟨H2, hH2⟩ : ∃ H2, H2 = (H - 1) / 2 := ⟨_, rfl⟩
  have hq1 : (b : Int) - (a : Int) = (H : Int) := by omega
  have hq2 : ((H : Int) - 1) / 2 = (H2 : Int) := by omega
  have hHn : a + H ≤ n := by omega
  have hH2n : H2 < H := by omega
  have hH1 : (1 : Int) ≤ (H : Int) := by omega
  have hdef : heapSort ltInt d a b = heapPop ltInt a H (heapBuild ltInt H a (H2 + 1) d) := by
    subst hH2; subst hH
    rfl
  have HD := (show Hid _ from hdef)
  clear hdef hH hH2
  go_enter Try.func119, Try.ntmps119
  go_wp2_with fail
  rw [hq2]
  go_loopw [9] (fun vi wr => ∃ (k : Nat) (iv : Int) (dk : Array Int), vi = .int .i64 iv ∧ iv = (k : Int) - 1 ∧ k ≤ H2 + 1 ∧ SR base g cap n dk wr ∧ w.grownBy wr (some g) ∧ heapBuild ltInt H a k dk = heapBuild ltInt H a (H2 + 1) d) (fun vi _ => (intOf vi + 1).toNat)
  case atStart => exact ⟨H2 + 1, H2, d, rfl, by omega, Nat.le_refl _, h, grn_rfl _ _, rfl⟩
  case round =>
    clear h
    obtain ⟨k, iv, dk, rfl, hiv, hk, h, hg, hO⟩ := hrel
    have HO := (show Hid _ from hO)
    clear hO
    match k with
    | k + 1 =>
      obtain rfl : iv = (k : Int) := by omega
      have hd : decide ((0 : Int) ≤ (k : Int)) = true := decide_eq_true (by omega)
      have hs := siftDown_any base g cap n k H a dk wr h hHn (by omega) hn
      clear hiv
      go_wp2_with fail
      refine hs.mono ?_
      rintro e w1 ⟨rfl, h1, hg1⟩
      clear hs
      have hg2 := hg.trans hg1
      go_wp2
      go_roundw
      case rel =>
        first
          | exact ⟨k, (k : Int) - 1, _, rfl, rfl, by omega, h1, hg2, by rw [← HO.out]; rfl⟩
          | ((repeat apply Exists.intro); refine ⟨?_, rfl⟩; exact ⟨k, (k : Int) - 1, _, rfl, rfl, by omega, h1, hg2, by rw [← HO.out]; rfl⟩)
      case measure => simp [intOf] <;> omega
    | 0 =>
      obtain rfl : iv = -1 := by omega
      have hdk : heapSort ltInt d a b = heapPop ltInt a H dk := by
        rw [HD.out, ← HO.out]
        rfl
      have HK := (show Hid _ from hdk)
      clear hdk hiv HO HD
      go_wp2_with fail
      go_loopw [10] (fun vi wr => ∃ (k : Nat) (iv : Int) (dj : Array Int), vi = .int .i64 iv ∧ iv = (k : Int) - 1 ∧ k ≤ H ∧ SR base g cap n dj wr ∧ w.grownBy wr (some g) ∧ heapPop ltInt a k dj = heapSort ltInt d a b) (fun vi _ => (intOf vi + 1).toNat)
      case atStart => exact ⟨H, (H : Int) - 1, dk, rfl, rfl, Nat.le_refl _, h, hg, HK.out.symm⟩
      case round =>
        clear h hg
        obtain ⟨k, iv, dj, rfl, hiv, hk, h, hg, hO⟩ := hrel
        have HO := (show Hid _ from hO)
        clear hO
        match k with
        | k + 1 =>
          obtain rfl : iv = (k : Int) := by omega
          have hd : decide ((0 : Int) ≤ (k : Int)) = true := decide_eq_true (by omega)
          have cR := h.cell (j := a) (by omega)
          have cC := h.cell (j := a + k) (by omega)
          have fR := h.free a
          have fC := h.free (a + k)
          have hs' := (h.drewN 1).swap a (a + k)
          have hg' := hg.trans ((grown_dN _ 1 (some g)).trans (grown_swap _ g a (a + k) (.int .u32 dj[a + k]!) (.int .u32 dj[a]!)))
          have hfr : (a : Int) < (n : Int) := by omega
          have hfc : (a : Int) + (k : Int) < (n : Int) := by omega
          have hsift := fun W d' (h' : SR base g cap n d' W) => siftDown_any base g cap n 0 k a d' W h' (by omega) (by omega) hn
          have HF := (show Hid _ from hsift)
          clear hiv h hg hsift
          by_cases hk0 : k = 0
          · subst hk0
            rw [Nat.add_zero] at cC fC hs' hg'
            have HSW := (show Hid _ from hs')
            have HGW := (show Hid _ from hg')
            clear hs' hg'
            generalize dj[a]! = X at cR HSW HGW
            clear cC fC
            go_wp2_with fail
            go_region
            all_goals
              have hs := HF.out _ _ HSW.out
              have HS := (show Hid _ from hs)
              clear hs cR fR
              go_wp2_with fail
              refine Calls.mono HS.out ?_
              rintro e w1 ⟨rfl, h1, hg1⟩
              clear HS
              have hg2 := HGW.out.trans hg1
              clear hg1
              go_wp2
              go_roundw
              case rel =>
                first
                  | exact ⟨0, -1, _, rfl, rfl, by omega, h1, hg2, by rw [← HO.out]; rfl⟩
                  | ((repeat apply Exists.intro); refine ⟨?_, rfl⟩; exact ⟨0, -1, _, rfl, rfl, by omega, h1, hg2, by rw [← HO.out]; rfl⟩)
              case measure => simp [intOf] <;> omega
          · generalize dj[a]! = X at cR hs' hg'
            generalize dj[a + k]! = Y at cC hs' hg'
            have hne : ¬ a = a + k := by omega
            go_wp2_with fail
            go_region
            all_goals
              have hs := HF.out _ _ hs'
              have HS := (show Hid _ from hs)
              clear hs hs' cR cC fR fC
              go_wp2_with fail
              refine Calls.mono HS.out ?_
              rintro e w1 ⟨rfl, h1, hg1⟩
              clear HS
              have hg2 := hg'.trans hg1
              clear hg' hg1
              go_wp2
              go_roundw
              case rel =>
                first
                  | exact ⟨k, (k : Int) - 1, _, rfl, rfl, by omega, h1, hg2, by rw [← HO.out]; rfl⟩
                  | ((repeat apply Exists.intro); refine ⟨?_, rfl⟩; exact ⟨k, (k : Int) - 1, _, rfl, rfl, by omega, h1, hg2, by rw [← HO.out]; rfl⟩)
              case measure => simp [intOf] <;> omega
        | 0 =>
          obtain rfl : iv = -1 := by omega
          have hend : dj = heapSort ltInt d a b := HO.out
          rw [hend] at h
          clear hiv HO HK
          go_wp2
          go_returns
          exact ⟨rfl, h, hg⟩

theorem uRev_go (i j : Nat) (d : Array Int) (h : i < j) : reverseLoop i j d = reverseLoop (i + 1) (j - 1) (swp d i j) := by rw [reverseLoop, if_pos h]
theorem uRev_stop (i j : Nat) (d : Array Int) (h : ¬ i < j) : reverseLoop i j d = d := by rw [reverseLoop, if_neg h]

set_option maxRecDepth 100000 in
set_option maxHeartbeats 4000000 in
theorem reverse_any (base g cap n a b : Nat) (d : Array Int) (w : World) (h : SR base g cap n d w) (hab : a < b) (hb : b ≤ n) (hn : n ≤ 1000000) :
    Calls Try.prog 122 #[.slice (some ⟨g, 0, none⟩) n cap, .int .i64 a, .int .i64 b] w fun e w' => e = .returned (.tuple #[]) ∧ SR base g cap n (reverseRange d a b) w' ∧ w.grownBy w' (some g) := by
  go_enter Try.func122, Try.ntmps122
  go_wp2_with fail
  go_loopw [6, 7] (fun vi vj wr => ∃ (i j : Nat) (dk : Array Int), vi = .int .i64 i ∧ vj = .int .i64 j ∧ i ≤ n ∧ j < n ∧ SR base g cap n dk wr ∧ w.grownBy wr (some g) ∧ reverseLoop i j dk = reverseRange d a b) (fun _ vj _ => (intOf vj).toNat)
  case atStart => exact ⟨a, b - 1, d, rfl, by congr 1; omega, by omega, by omega, h, grn_rfl _ _, rfl⟩
  case round =>
    clear h
    obtain ⟨i, j, dk, rfl, rfl, hi, hj, h, hg, hO⟩ := hrel
    have HO := (show Hid _ from hO)
    clear hO
    by_cases hij : i < j
    · have hgo := uRev_go i j dk hij
      rw [HO.out] at hgo
      have cR := h.cell (j := i) (by omega)
      have cC := h.cell (j := j) (by omega)
      have fR := h.free i
      have fC := h.free j
      have hs' := (h.drewN 1).swap i j
      have hg' := hg.trans ((grown_dN _ 1 (some g)).trans (grown_swap _ g i j (.int .u32 dk[j]!) (.int .u32 dk[i]!)))
      generalize dk[i]! = X at cR hs' hg'
      generalize dk[j]! = Y at cC hs' hg'
      have hfr : (i : Int) < (n : Int) := by omega
      have hfc : (j : Int) < (n : Int) := by omega
      have HG := (show Hid _ from hgo)
      clear h hg hgo
      go_wp2_with fail
      go_region
      all_goals
        go_wp2
        go_roundw
        case rel => exact ⟨i + 1, j - 1, _, by go_num, by congr 1; omega, by omega, by omega, hs', hg', HG.out.symm⟩
        case measure => simp [intOf]; omega
    · have hend := uRev_stop i j dk hij
      rw [HO.out] at hend
      rw [← hend] at h
      go_wp2
      go_returns
      exact ⟨rfl, h, hg⟩
end Go.Proofs.Ytppbdalkfkemgaa
