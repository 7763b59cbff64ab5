import Derived.Test.YtakaadcpaeiccabGreatGN
namespace Go.Proofs.YtakaadcpaeiccabGreat
open Go.RowKit Go.Sort

theorem and_mask (y : Int) (y0 : 0 ≤ y) (y1 : y < 18446744073709551616) (r M : Nat) (hr : r ≤ 32) (hM : M + 1 = 2 ^ r) : ∃ z : Nat, bits .and .u64 y (M : Int) = (z : Int) ∧ z ≤ M := by
  have hle : 2 ^ r ≤ 2 ^ 32 := Nat.pow_le_pow_right (by omega) hr
  refine ⟨y.toNat &&& M, ?_, Nat.and_le_right⟩
  rw [u64_and y M y0 y1 (by omega) (by omega)]
  simp
theorem xb_keep {W W' : World} {S g : Nat} {x : Int} {t : TypeId} (h : W.heap[S]? = some (.cells #[.int .u64 x] t)) (hne : S ≠ g) (hg : W.grownBy W' (some g)) : W'.heap[S]? = some (.cells #[.int .u64 x] t) :=
  (hg.block S (Array.getElem?_eq_some_iff.1 h).1 (by simpa using hne)).trans h
theorem SR.keepS {base g cap n : Nat} {d : Array Int} {W W' : World} {S : Nat} (h : SR base g cap n d W) (hne : S ≠ g) (hg : W.grownBy W' (some S)) : SR base g cap n d W' :=
  ⟨h.size, h.row.kept hg (.inr (by simp [Value.ownBlock]; exact fun e => hne e.symm))⟩
theorem grn_new {w W W' : World} {S g : Nat} (h : w.grownBy W (some g)) (k : W.grownBy W' (some S)) (hS : w.heap.size ≤ S) : w.grownBy W' (some g) :=
  ⟨k.os.trans h.os, k.tape.trans h.tape, k.output.trans h.output, Nat.le_trans h.size k.size, fun i hi hne => (k.block i (Nat.lt_of_lt_of_le hi h.size) (by simp; omega)).trans (h.block i hi hne)⟩

set_option maxRecDepth 100000 in
set_option maxHeartbeats 4000000 in
theorem break_any (base g cap n a b : Nat) (d : Array Int) (w : World) (h : SR base g cap n d w) (hab : a < b) (hb : b ≤ n) (hn : n ≤ 1000000) :
    Calls Tryz.prog 185 #[.slice (some ⟨g, 0, none⟩) n cap, .int .i64 a, .int .i64 b] w fun e w' => e = .returned (.tuple #[]) ∧ ∃ d', SR base g cap n d' w' ∧ PermIn a b d d' ∧ w.grownBy w' (some g) := by
  obtain ⟨l, hl⟩ : ∃ l, l = b - a := ⟨_, rfl⟩
  have hq1 : (b : Int) - (a : Int) = (l : Int) := by omega
  have hla : a + l = b := by omega
  clear hl
  by_cases h8 : 8 ≤ l
  · have hd8 : decide ((8 : Int) ≤ (l : Int)) = true := decide_eq_true (by omega)
    obtain ⟨m, hm⟩ : ∃ m, m = l / 4 := ⟨_, rfl⟩
    obtain ⟨E, hE⟩ : ∃ E, E = a + m * 2 := ⟨_, rfl⟩
    obtain ⟨I0, hI0⟩ : ∃ I0, I0 + 1 = E := ⟨E - 1, by omega⟩
    have hq2 : (l : Int) / 4 = (m : Int) := by omega
    have hq3 : (a : Int) + (m : Int) * 2 = (E : Int) := by omega
    have hq4 : (E : Int) - 1 = (I0 : Int) := by omega
    have hm1 : (m : Int) < 1000000 := by omega
    have hE1 : a + 1 ≤ E ∧ E + 1 < b := by omega
    obtain ⟨hE2, hE3⟩ := hE1
    have hgS : g < w.heap.size := (h.row.lt g rfl).2
    have hB1 : Below w.heap.size w (w.alloc (.cells #[.int .u64 l] 302)) := (Below.refl _ _).alloc (Nat.le_refl _) _
    have h0 := h.later hB1
    have hx0 : (w.alloc (.cells #[.int .u64 (l : Int)] 302)).heap[w.heap.size]? = some (.cells #[.int .u64 (l : Int)] 302) := heap_alloc_new _ _
    have hg0 : w.grownBy (w.alloc (.cells #[.int .u64 (l : Int)] 302)) (some g) := World.grownBy_alloc w _ _
    have hI1 : I0 < E := by omega
    have hI2 : I0 + 1 ≤ E + 2 := by omega
    have hI3 : a ≤ I0 := by omega
    clear hm hE hI0 h hB1
    go_enter Tryz.func185, Tryz.ntmps185
    go_wp2_with fail
    refine (nextPow_any l (by omega) _).mono ?_
    rintro e w1 ⟨r, rfl, hr32, hr2, rfl⟩
    have hr3 := hr2 (by omega)
    obtain ⟨M, hM⟩ : ∃ M, M + 1 = 2 ^ r := ⟨2 ^ r - 1, by have : 0 < 2 ^ r := Nat.pow_pos (by omega); omega⟩
    have hMl : M < 2 * l := by omega
    have hAm := fun (y : Int) (y0 : 0 ≤ y) (y1 : y < 18446744073709551616) => and_mask y y0 y1 r M hr32 hM
    have HAM := (show Hid _ from hAm)
    have hP1 : 2 ^ r = M + 1 := hM.symm
    rw [hP1]
    have hqM : ((M + 1 : Nat) : Int) - 1 = (M : Int) := by omega
    obtain ⟨P, hP⟩ : ∃ P, P = M + 1 := ⟨_, rfl⟩
    rw [← hP] at hqM ⊢
    have hP2 : 1 ≤ P := by omega
    clear hr2 hM hAm hP1 hP hr3 hr32
    generalize hS : w.heap.size = S at hx0 hgS
    have HS := (show Hid _ from hS)
    have hSg : S ≠ g := by omega
    go_wp2_with fail
    generalize World.alloc _ _ = W0 at h0 hx0 hg0 ⊢
    clear hS
    go_loopw [9] (fun vi wr => ∃ (I : Nat) (dk : Array Int) (x : Int), vi = .int .i64 I ∧ I ≤ E + 2 ∧ a ≤ I ∧ SR base g cap n dk wr ∧ w.grownBy wr (some g) ∧ wr.heap[S]? = some (.cells #[.int .u64 x] 302) ∧ PermIn a b d dk) (fun vi _ => E + 2 - (intOf vi).toNat)
    case atStart => exact ⟨I0, d, l, rfl, by omega, hI3, h0, hg0, hx0, permIn_refl _ _ _⟩
    case round =>
      clear h0 hg0 hx0
      obtain ⟨I, dk, x, rfl, hIE, haI, h1, hg1, hx1, hp⟩ := hrel
      by_cases hlt : I ≤ E + 1
      · have hd1 : decide ((I : Int) ≤ (E : Int) + 1) = true := decide_eq_true (by omega)
        have hnx := next_any S x _ hx1
        go_wp2_with fail
        refine hnx.mono ?_
        rintro e W1 ⟨y, rfl, ⟨y0, y1⟩, hx2, hgx⟩
        clear hnx hx1
        have hg2 := grn_new hg1 hgx (by rw [HS.out]; exact Nat.le_refl _)
        replace h1 := h1.keepS hSg hgx
        clear hg1 hgx
        have hg1 := hg2
        have hx1 := hx2
        clear hg2 hx2
        obtain ⟨z, hz, hzM⟩ := HAM.out y y0 y1
        by_cases hzl : l ≤ z
        · have hdz : decide ((l : Int) ≤ (z : Int)) = true := decide_eq_true (by omega)
          obtain ⟨o, ho⟩ : ∃ o, o + l = z := ⟨z - l, by omega⟩
          have hqz : (z : Int) - (l : Int) = (o : Int) := by omega
          have hol : o < l := by omega
          clear ho
          have cR := h1.cell (j := I) (by omega)
          have cC := h1.cell (j := a + o) (by omega)
          have fR := h1.free I
          have fC := h1.free (a + o)
          have hs' := (h1.drewN 1).swap I (a + o)
          have hg' := hg1.trans ((grown_dN _ 1 (some g)).trans (grown_swap _ g I (a + o) (.int .u32 dk[a + o]!) (.int .u32 dk[I]!)))
          have hx' := xb_keep hx1 hSg ((grown_dN W1 1 (some g)).trans (grown_swap _ g I (a + o) (.int .u32 dk[a + o]!) (.int .u32 dk[I]!)))
          have hp' := permIn_trans _ _ _ _ _ hp (swp_permIn dk a b I (a + o) (by omega) (by omega) (by omega) (by omega) (by rw [h1.size]; exact hb))
          have hfr : (I : Int) < (n : Int) := by omega
          have hfc : (a : Int) + (o : Int) < (n : Int) := by omega
          by_cases he : I = a + o
          · rw [← he] at cC fC hs' hg' hx' hp'
            have hqo : (a : Int) + (o : Int) = (I : Int) := by omega
            generalize dk[I]! = X at cR cC hs' hg' hx'
            clear he h1 hg1 hx1 cC fC
            go_wp2_with fail
            go_region
            all_goals
              go_wp2
              go_roundw
              case rel => exact ⟨I + 1, _, _, by go_num, by omega, by omega, hs', hg', hx', hp'⟩
              case measure => simp [intOf] <;> omega
          · generalize dk[I]! = X at cR hs' hg' hx'
            generalize dk[a + o]! = Y at cC hs' hg' hx'
            clear h1 hg1 hx1
            go_wp2_with fail
            go_region
            all_goals
              go_wp2
              go_roundw
              case rel => exact ⟨I + 1, _, _, by go_num, by omega, by omega, hs', hg', hx', hp'⟩
              case measure => simp [intOf] <;> omega
        · have hdz : decide ((l : Int) ≤ (z : Int)) = false := decide_eq_false (by omega)
          have hzl' : z < l := by omega
          have cR := h1.cell (j := I) (by omega)
          have cC := h1.cell (j := a + z) (by omega)
          have fR := h1.free I
          have fC := h1.free (a + z)
          have hs' := (h1.drewN 1).swap I (a + z)
          have hg' := hg1.trans ((grown_dN _ 1 (some g)).trans (grown_swap _ g I (a + z) (.int .u32 dk[a + z]!) (.int .u32 dk[I]!)))
          have hx' := xb_keep hx1 hSg ((grown_dN W1 1 (some g)).trans (grown_swap _ g I (a + z) (.int .u32 dk[a + z]!) (.int .u32 dk[I]!)))
          have hp' := permIn_trans _ _ _ _ _ hp (swp_permIn dk a b I (a + z) (by omega) (by omega) (by omega) (by omega) (by rw [h1.size]; exact hb))
          have hfr : (I : Int) < (n : Int) := by omega
          have hfc : (a : Int) + (z : Int) < (n : Int) := by omega
          by_cases he : I = a + z
          · rw [← he] at cC fC hs' hg' hx' hp'
            have hqo : (a : Int) + (z : Int) = (I : Int) := by omega
            generalize dk[I]! = X at cR cC hs' hg' hx'
            clear he h1 hg1 hx1 cC fC
            go_wp2_with fail
            go_region
            all_goals
              go_wp2
              go_roundw
              case rel => exact ⟨I + 1, _, _, by go_num, by omega, by omega, hs', hg', hx', hp'⟩
              case measure => simp [intOf] <;> omega
          · generalize dk[I]! = X at cR hs' hg' hx'
            generalize dk[a + z]! = Y at cC hs' hg' hx'
            clear h1 hg1 hx1
            go_wp2_with fail
            go_region
            all_goals
              go_wp2
              go_roundw
              case rel => exact ⟨I + 1, _, _, by go_num, by omega, by omega, hs', hg', hx', hp'⟩
              case measure => simp [intOf] <;> omega
      · have hd1 : decide ((I : Int) ≤ (E : Int) + 1) = false := decide_eq_false (by omega)
        go_wp2
        go_returns
        exact ⟨rfl, dk, h1, hp, hg1⟩
  · have hd8 : decide ((8 : Int) ≤ (l : Int)) = false := decide_eq_false (by omega)
    go_enter Tryz.func185, Tryz.ntmps185
    go_wp2
    go_returns
    exact ⟨rfl, d, h, permIn_refl _ _ _, grn_rfl _ _⟩
end Go.Proofs.YtakaadcpaeiccabGreat
