import Derived.Test.YtppbdalkfkemgaaU1
namespace Go.Proofs.Ytppbdalkfkemgaa
open Go.RowKit Go.Sort

/-- A row, and the count of exchanges beside it. -/
structure PV (base g cap n : Nat) (d : Array Int) (S : Nat) (s : Nat) (W : World) : Prop where
  sr : SR base g cap n d W
  sb : W.heap[S]? = some (.cells #[.int .i64 s] 3)
theorem PV.cell {base g cap n : Nat} {d : Array Int} {S s : Nat} {W : World} (h : PV base g cap n d S s W) : W.cell? ⟨S, 0, none⟩ = some (.int .i64 s) := cell_of_row W S 0 _ _ _ h.sb
theorem PV.free {base g cap n : Nat} {d : Array Int} {S s : Nat} {W : World} (h : PV base g cap n d S s W) : W.frozen? ⟨S, 0, none⟩ = false := by
  have := h.sb
  simp [World.frozen?, this]
theorem PV.ne {base g cap n : Nat} {d : Array Int} {S s : Nat} {W : World} (h : PV base g cap n d S s W) : g ≠ S := by
  rintro rfl
  rcases h.sr.row.2 with ⟨he, _⟩ | ⟨g', cap', cur, he, _, hh, _⟩
  · cases he
  · cases he
    rw [h.sb] at hh
    simp at hh
theorem PV.drewN {base g cap n : Nat} {d : Array Int} {S s : Nat} {W : World} (h : PV base g cap n d S s W) (q : Nat) : PV base g cap n d S s (W.drewN q) := ⟨h.sr.drewN q, h.sb⟩
theorem PV.put {base g cap n : Nat} {d : Array Int} {S s : Nat} {W : World} (h : PV base g cap n d S s W) (s' : Nat) : PV base g cap n d S s' (W.setCell ⟨S, 0, none⟩ (.int .i64 s')) := by
  refine ⟨⟨h.sr.size, h.sr.row.kept (row := some S) (grn_st (grn_rfl _ _) 0 _) (.inr (by simp [Value.ownBlock]; exact h.ne))⟩, ?_⟩
  have := h.sb
  simp [World.setCell, Array.getElem?_modify, this]

/-- What one of the pickers leaves. -/
def PVP (base g cap n : Nat) (d : Array Int) (S s k : Nat) (w : World) (w' : World) : Prop := ∃ s', s' ≤ s + k ∧ PV base g cap n d S s' w' ∧ w.grownBy w' (some S)

set_option maxRecDepth 100000 in
set_option maxHeartbeats 4000000 in
theorem order2_any (base g cap n a b S s : Nat) (d : Array Int) (w : World) (h : PV base g cap n d S s w) (ha : a < n) (hb : b < n) (_hn : n ≤ 1000000) (hs : s ≤ 100) :
    Calls Try.prog 134 #[.slice (some ⟨g, 0, none⟩) n cap, .int .i64 a, .int .i64 b, .pointer (some ⟨S, 0, none⟩)] w fun e w' => ∃ x y : Nat, e = .returned (.tuple #[.int .i64 x, .int .i64 y]) ∧ ((x = a ∧ y = b) ∨ (x = b ∧ y = a)) ∧ PVP base g cap n d S s 1 w w' := by
  have c0 := h.sr.cell ha
  have c1 := h.sr.cell hb
  have c2 := h.cell
  have f2 := h.free
  have hai : (a : Int) < (n : Int) := by omega
  have hbi : (b : Int) < (n : Int) := by omega
  have hput := fun q => (h.drewN q).put (s + 1)
  have hgp := fun (q : Nat) (u : Value) => (grown_dN w q (some S)).trans (grn_st (grn_rfl (w.drewN q) (some S)) 0 u)
  generalize d[a]! = X at c0
  generalize d[b]! = Y at c1
  go_enter Try.func134, Try.ntmps134
  go_wp2_with fail
  go_quiet (first | (go_at_call 107; refine Calls.quiet_of_same (Less_any _ _ _)))
  cases hl : ltInt Y X
  · go_wp2
    go_ret2
    exact ⟨a, b, rfl, .inl ⟨rfl, rfl⟩, s, by omega, h.drewN _, grown_dN _ _ _⟩
  · replace hput := hput nq
    replace hgp := hgp nq
    go_wp2
    go_ret2
    refine ⟨b, a, rfl, .inr ⟨rfl, rfl⟩, s + 1, Nat.le_refl _, ?_, ?_⟩
    · exact hput
    · exact hgp _

set_option maxRecDepth 100000 in
set_option maxHeartbeats 4000000 in
theorem median_any (base g cap n a b c S s : Nat) (d : Array Int) (w : World) (h : PV base g cap n d S s w) (ha : a < n) (hb : b < n) (hc : c < n) (hn : n ≤ 1000000) (hs : s ≤ 90) :
    Calls Try.prog 133 #[.slice (some ⟨g, 0, none⟩) n cap, .int .i64 a, .int .i64 b, .int .i64 c, .pointer (some ⟨S, 0, none⟩)] w fun e w' => ∃ x : Nat, e = .returned (.int .i64 x) ∧ (x = a ∨ x = b ∨ x = c) ∧ PVP base g cap n d S s 3 w w' := by
  go_enter Try.func133, Try.ntmps133
  go_wp2_with fail
  refine (order2_any base g cap n a b S s d w h ha hb hn (by omega)).mono ?_
  rintro e w1 ⟨x1, y1, rfl, hxy1, s1, hs1, h1, hg1⟩
  have hx1 : x1 < n := by omega
  have hy1 : y1 < n := by omega
  go_wp2_with fail
  refine (order2_any base g cap n y1 c S s1 d w1 h1 hy1 hc hn (by omega)).mono ?_
  rintro e w2 ⟨x2, y2, rfl, hxy2, s2, hs2, h2, hg2⟩
  have hx2 : x2 < n := by omega
  go_wp2_with fail
  refine (order2_any base g cap n x1 x2 S s2 d w2 h2 hx1 hx2 hn (by omega)).mono ?_
  rintro e w3 ⟨x3, y3, rfl, hxy3, s3, hs3, h3, hg3⟩
  go_wp2
  go_ret
  exact ⟨y3, rfl, by omega, s3, by omega, h3, (hg1.trans hg2).trans hg3⟩

set_option maxRecDepth 100000 in
set_option maxHeartbeats 4000000 in
theorem medianAdj_any (base g cap n a S s : Nat) (d : Array Int) (w : World) (h : PV base g cap n d S s w) (h0 : 0 < a) (ha : a + 1 < n) (hn : n ≤ 1000000) (hs : s ≤ 90) :
    Calls Try.prog 132 #[.slice (some ⟨g, 0, none⟩) n cap, .int .i64 a, .pointer (some ⟨S, 0, none⟩)] w fun e w' => ∃ x : Nat, e = .returned (.int .i64 x) ∧ (x + 1 = a ∨ x = a ∨ x = a + 1) ∧ PVP base g cap n d S s 3 w w' := by
  have hq : (a : Int) - 1 = ((a - 1 : Nat) : Int) := by omega
  have hq2 : (a : Int) + 1 = ((a + 1 : Nat) : Int) := by omega
  have hm := median_any base g cap n (a - 1) a (a + 1) S s d w h (by omega) (by omega) ha hn hs
  rw [← hq, ← hq2] at hm
  clear hq hq2
  go_enter Try.func132, Try.ntmps132
  go_wp2_with fail
  refine hm.mono ?_
  rintro e w1 ⟨x1, rfl, hx1, s1, hs1, h1, hg1⟩
  clear hm
  go_wp2
  go_ret
  exact ⟨x1, rfl, by omega, s1, hs1, h1, hg1⟩

/-- What choosePivot leaves. -/
def ChP (base g cap n : Nat) (d : Array Int) (a b : Nat) (w : World) (e : Ending) (w' : World) : Prop := ∃ (p : Nat) (t : Int), e = .returned (.tuple #[.int .i64 p, .int .i64 t]) ∧ a ≤ p ∧ p < b ∧ SR base g cap n d w' ∧ Below w.heap.size w w'
theorem PV.start {base g cap n : Nat} {d : Array Int} {W : World} (h : SR base g cap n d W) : PV base g cap n d W.heap.size 0 (W.alloc (.cells #[.int .i64 0] 3)) :=
  ⟨h.later ((Below.refl _ _).alloc (Nat.le_refl _) _), heap_alloc_new _ _⟩

set_option maxRecDepth 100000 in
set_option maxHeartbeats 4000000 in
theorem choosePivot_any (base g cap n a b : Nat) (d : Array Int) (w : World) (h : SR base g cap n d w) (hab : a < b) (hb : b ≤ n) (hn : n ≤ 1000000) :
    Calls Try.prog 121 #[.slice (some ⟨g, 0, none⟩) n cap, .int .i64 a, .int .i64 b] w fun e w' => ChP base g cap n d a b w e w' := by
  obtain ⟨l, hl⟩ : ∃ l, l = b - a := ⟨_, rfl⟩
  obtain ⟨m, hm⟩ : ∃ m, m = l / 4 := ⟨_, rfl⟩
  have hq1 : (b : Int) - (a : Int) = (l : Int) := by omega
  have hq2 : (l : Int) / 4 = (m : Int) := by omega
  have hla : a + l = b := by omega
  have hm4 : m * 4 ≤ l := by omega
  have hm5 : l ≤ m * 4 + 3 := by omega
  clear hl hm
  have hP := PV.start h
  have hB : Below w.heap.size w (w.alloc (.cells #[.int .i64 0] 3)) := (Below.refl _ _).alloc (Nat.le_refl _) _
  have hS : w.heap.size ≤ w.heap.size := Nat.le_refl _
  have fin : ∀ (S : Nat) (s k : Nat) (W W' : World), w.heap.size ≤ S → Below w.heap.size w W → PVP base g cap n d S s k W W' → Below w.heap.size w W' := by
    rintro S s k W W' hS hB ⟨_, _, _, hg⟩
    exact hB.trans ⟨hg.os, hg.tape, hg.output, hg.size, fun j hj => hg.block j (Nat.lt_of_lt_of_le hj hB.size) (by simp; omega)⟩
  obtain ⟨I1, hI1⟩ : ∃ I1, I1 = a + m := ⟨_, rfl⟩
  obtain ⟨J1, hJ1⟩ : ∃ J1, J1 = a + m * 2 := ⟨_, rfl⟩
  obtain ⟨K1, hK1⟩ : ∃ K1, K1 = a + m * 3 := ⟨_, rfl⟩
  have hqI : (a : Int) + (m : Int) = (I1 : Int) := by omega
  have hqJ : (a : Int) + (m : Int) * 2 = (J1 : Int) := by omega
  have hqK : (a : Int) + (m : Int) * 3 = (K1 : Int) := by omega
  have hIb : a ≤ I1 ∧ I1 < b ∧ a ≤ J1 ∧ J1 < b ∧ a ≤ K1 ∧ K1 < b := by omega
  have hI50 : 50 ≤ l → a < I1 ∧ I1 + 1 < b ∧ a < J1 ∧ J1 + 1 < b ∧ a < K1 ∧ K1 + 1 < b := by omega
  obtain ⟨i1, i2, j1, j2, k1, k2⟩ := hIb
  have HI := (show Hid _ from hI50)
  clear hI1 hJ1 hK1 hI50
  have hm' : (m : Int) < 1000000 := by omega
  by_cases h8 : 8 ≤ l
  · have hd8 : decide ((8 : Int) ≤ (l : Int)) = true := decide_eq_true (by omega)
    by_cases h50 : 50 ≤ l
    · have hd50 : decide ((50 : Int) ≤ (l : Int)) = true := decide_eq_true (by omega)
      obtain ⟨q1, q2, q3, q4, q5, q6⟩ := HI.out h50
      clear HI
      have HP := (show Hid _ from hP)
      have HB := (show Hid _ from hB)
      clear hP hB h
      go_enter Try.func121, Try.ntmps121
      go_wp2_with fail
      refine (medianAdj_any base g cap n I1 w.heap.size 0 d _ HP.out (by omega) (by omega) hn (by omega)).mono ?_
      rintro e w1 ⟨x1, rfl, hx1, hv1⟩
      have hB1 := fin _ _ _ _ _ hS HB.out hv1
      obtain ⟨s1, hs1, h1, _⟩ := hv1
      clear HP HB
      go_wp2_with fail
      refine (medianAdj_any base g cap n J1 w.heap.size s1 d _ h1 (by omega) (by omega) hn (by omega)).mono ?_
      rintro e w2 ⟨x2, rfl, hx2, hv2⟩
      have hB2 := fin _ _ _ _ _ hS hB1 hv2
      obtain ⟨s2, hs2, h2, _⟩ := hv2
      clear h1 hB1
      go_wp2_with fail
      refine (medianAdj_any base g cap n K1 w.heap.size s2 d _ h2 (by omega) (by omega) hn (by omega)).mono ?_
      rintro e w3 ⟨x3, rfl, hx3, hv3⟩
      have hB3 := fin _ _ _ _ _ hS hB2 hv3
      obtain ⟨s3, hs3, h3, _⟩ := hv3
      clear h2 hB2
      go_wp2_with fail
      refine (median_any base g cap n x1 x2 x3 w.heap.size s3 d _ h3 (by omega) (by omega) (by omega) hn (by omega)).mono ?_
      rintro e w4 ⟨x4, rfl, hx4, hv4⟩
      have hBE := fin _ _ _ _ _ hS hB3 hv4
      obtain ⟨sE, hs4, hE, _⟩ := hv4
      clear h3 hB3
      have cS := hE.cell
      have hsr := hE.sr
      clear hE
      by_cases hz : sE = 0
      · subst hz
        go_wp2
        go_ret2
        exact ⟨x4, 1, rfl, by omega, by omega, hsr, hBE⟩
      · by_cases h12 : sE = 12
        · subst h12
          go_wp2
          go_ret2
          exact ⟨x4, 2, rfl, by omega, by omega, hsr, hBE⟩
        · have b0 : ((sE : Int) == 0) = false := by rw [beq_eq_false_iff_ne]; omega
          have b12 : ((sE : Int) == 12) = false := by rw [beq_eq_false_iff_ne]; omega
          go_wp2
          go_ret2
          exact ⟨x4, 0, rfl, by omega, by omega, hsr, hBE⟩
    · have hd50 : decide ((50 : Int) ≤ (l : Int)) = false := decide_eq_false (by omega)
      clear HI
      have HP := (show Hid _ from hP)
      have HB := (show Hid _ from hB)
      clear hP hB h
      go_enter Try.func121, Try.ntmps121
      go_wp2_with fail
      refine (median_any base g cap n I1 J1 K1 w.heap.size 0 d _ HP.out (by omega) (by omega) (by omega) hn (by omega)).mono ?_
      rintro e w4 ⟨x4, rfl, hx4, hv4⟩
      have hBE := fin _ _ _ _ _ hS HB.out hv4
      obtain ⟨sE, hs4, hE, _⟩ := hv4
      clear HP HB
      have cS := hE.cell
      have hsr := hE.sr
      clear hE
      by_cases hz : sE = 0
      · subst hz
        go_wp2
        go_ret2
        exact ⟨x4, 1, rfl, by omega, by omega, hsr, hBE⟩
      · by_cases h12 : sE = 12
        · subst h12
          go_wp2
          go_ret2
          exact ⟨x4, 2, rfl, by omega, by omega, hsr, hBE⟩
        · have b0 : ((sE : Int) == 0) = false := by rw [beq_eq_false_iff_ne]; omega
          have b12 : ((sE : Int) == 12) = false := by rw [beq_eq_false_iff_ne]; omega
          go_wp2
          go_ret2
          exact ⟨x4, 0, rfl, by omega, by omega, hsr, hBE⟩
  · have hd8 : decide ((8 : Int) ≤ (l : Int)) = false := decide_eq_false (by omega)
    clear HI
    have cS := hP.cell
    have hsr := hP.sr
    clear hP h
    go_enter Try.func121, Try.ntmps121
    go_wp2
    go_ret2
    exact ⟨J1, 1, rfl, by omega, by omega, hsr, hB⟩
end Go.Proofs.Ytppbdalkfkemgaa
