import Derived.Test.YtppbdalkfkemgaaU1
namespace Go.Proofs.Ytppbdalkfkemgaa
open Go.RowKit Go.Sort

theorem uInner_go (a j : Nat) (d : Array Int) (hj : a < j) (hl : ltInt d[j]! d[j - 1]! = true) : insInner ltInt a j d = insInner ltInt a (j - 1) (swp d j (j - 1)) := by
  match j, hj with
  | k + 1, hj =>
    rw [insInner]
    simp only [Nat.add_sub_cancel] at hl ⊢
    rw [if_pos]
    simp [hj, hl]
theorem uInner_stop (a j : Nat) (d : Array Int) (h : j ≤ a ∨ ltInt d[j]! d[j - 1]! = false) : insInner ltInt a j d = d := by
  match j with
  | 0 => rw [insInner]
  | k + 1 =>
    rw [insInner]
    simp only [Nat.add_sub_cancel] at h
    rw [if_neg]
    rcases h with h | h
    · simp; omega
    · simp [h]
theorem uOuter_go (a b i : Nat) (d : Array Int) (h : i < b) : insOuter ltInt a b i d = insOuter ltInt a b (i + 1) (insInner ltInt a i d) := by rw [insOuter, if_pos h]
theorem uOuter_stop (a b i : Nat) (d : Array Int) (h : ¬ i < b) : insOuter ltInt a b i d = d := by rw [insOuter, if_neg h]

set_option maxRecDepth 100000 in
set_option maxHeartbeats 4000000 in
theorem insertion_any (base g cap n a b : Nat) (d : Array Int) (w : World) (h : SR base g cap n d w) (hab : a ≤ b) (hb : b ≤ n) (hn : n ≤ 1000000) :
    Calls Try.prog 118 #[.slice (some ⟨g, 0, none⟩) n cap, .int .i64 a, .int .i64 b] w fun e w' => e = .returned (.tuple #[]) ∧ SR base g cap n (insertionSort ltInt d a b) w' ∧ w.grownBy w' (some g) := by
  go_enter Try.func118, Try.ntmps118
  go_wp2_with fail
  go_loopw [6] (fun vi wr => ∃ (i : Nat) (dk : Array Int), vi = .int .i64 i ∧ a < i ∧ i ≤ b + 1 ∧ SR base g cap n dk wr ∧ w.grownBy wr (some g) ∧ insOuter ltInt a b i dk = insertionSort ltInt d a b) (fun vi _ => b + 1 - (intOf vi).toNat)
  case atStart => exact ⟨a + 1, d, by go_num, by omega, by omega, h, grn_rfl _ _, rfl⟩
  case round =>
    clear h
    obtain ⟨i, dk, rfl, hai, hib, h, hg, hO⟩ := hrel
    have HO := (show Hid _ from hO)
    clear hO
    by_cases hlt : i < b
    · have hix : (i : Int) < (b : Int) := by omega
      go_wp2_with fail
      go_loopw [7] (fun vj wr2 => ∃ (j : Nat) (dj : Array Int), vj = .int .i64 j ∧ a ≤ j ∧ j ≤ i ∧ SR base g cap n dj wr2 ∧ w.grownBy wr2 (some g) ∧ insInner ltInt a j dj = insInner ltInt a i dk) (fun vj _ => (intOf vj).toNat)
      case atStart => exact ⟨i, dk, rfl, by omega, Nat.le_refl _, h, hg, rfl⟩
      case round =>
        clear h hg
        obtain ⟨j, dj, rfl, haj, hji, h, hg, hI⟩ := hrel
        have hjn : (j : Int) < (n : Int) := by omega
        have hj1n : (j : Int) - 1 < (n : Int) := by omega
        by_cases hja : a < j
        · have hjp : (1 : Int) ≤ (j : Int) := by omega
          have c0 := h.cell (j := j) (by omega)
          have c1 := h.cell (j := j - 1) (by omega)
          have f0 := h.free j
          have f1 := h.free (j - 1)
          have hq : (j : Int) - 1 = ((j - 1 : Nat) : Int) := by omega
          have hs := h.swap j (j - 1)
          have hgs := fun u v => grown_swap wr g j (j - 1) u v
          have hgo := uInner_go a j dj hja
          have hst := uInner_stop a j dj
          generalize hX : dj[j]! = X at c0 hs hgo hst
          generalize hY : dj[j - 1]! = Y at c1 hs hgo hst
          have hJn : ((j - 1 : Nat) : Int) < (n : Int) := by omega
          have hj0 : (0 : Int) ≤ (j : Int) - 1 := by omega
          generalize hJ : j - 1 = J at c1 f1 hq hs hgs hgo hst hJn
          have HJ := (show Hid _ from hJ)
          have HI := (show Hid _ from hI)
          have HS := (show Hid _ from hst)
          clear hJ hI hst
          have hdj : decide (a < j) = true := decide_eq_true hja
          go_wp2_with fail
          go_quiet (first | (go_at_call 107; refine Calls.quiet_of_same (Less_any _ _ _)))
          cases hl : ltInt X Y
          · go_wp2
            go_roundw
            case rel => exact ⟨i + 1, dj, by go_num, by omega, by omega, h.drewN _, hg.trans (grown_dN _ _ _), by rw [← HO.out, uOuter_go _ _ _ _ hlt, ← HI.out, HS.out (.inr hl)]⟩
            case measure => simp [intOf]; omega
          · have hs' := (h.drewN (nq + 1)).swap j J
            have hg' := hg.trans ((grown_dN wr (nq + 1) (some g)).trans (grown_swap _ g j J (.int .u32 dj[J]!) (.int .u32 dj[j]!)))
            rw [hX, ← HJ.out, hY, HJ.out] at hs' hg'
            have hJj : J + 1 = j := by have := HJ.out; omega
            clear hX hY
            go_wp2_with fail
            go_region
            all_goals go_wp2
            go_roundw
            case rel => exact ⟨J, swp dj j J, rfl, by omega, by omega, hs', hg', by rw [← HI.out, hgo hl]⟩
            case measure => simp [intOf]; omega
        · have hdj : decide (a < j) = false := decide_eq_false hja
          have hst := uInner_stop a j dj (.inl (by omega))
          go_wp2_with fail
          go_quiet (fail)
          go_wp2
          go_roundw
          case rel => exact ⟨i + 1, dj, by go_num, by omega, by omega, h.drewN _, hg.trans (grown_dN _ _ _), by rw [← HO.out, uOuter_go _ _ _ _ hlt, ← hI, hst]⟩
          case measure => simp [intOf]; omega
    · have hend : insOuter ltInt a b i dk = dk := uOuter_stop a b i dk hlt
      rw [HO.out] at hend
      rw [← hend] at h
      go_wp2
      go_returns
      exact ⟨rfl, h, hg⟩
end Go.Proofs.Ytppbdalkfkemgaa
