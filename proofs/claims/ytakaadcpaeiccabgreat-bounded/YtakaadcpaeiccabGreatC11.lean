import Derived.Test.YtakaadcpaeiccabGreatC08
namespace Go.Proofs.YtakaadcpaeiccabGreat
open Go.RowKit Go.Sort

/-- A row, and the count of exchanges beside it. -/
structure PV (base g cap n : Nat) (d : Array Int) (S : Nat) (s : Nat) (W : World) : Prop where
  sr : SR base g cap n d W
  sb : W.heap[S]? = some (.cells #[.int .i64 s] 3)
theorem PV.cell {base g cap n : Nat} {d : Array Int} {S s : Nat} {W : World} (h : PV base g cap n d S s W) : W.cell? ⟨S, 0, none⟩ = some (.int .i64 s) := cell_of_row W S 0 _ _ _ h.sb
theorem PV.free {base g cap n : Nat} {d : Array Int} {S s : Nat} {W : World} (h : PV base g cap n d S s W) : W.frozen? ⟨S, 0, none⟩ = false := by
  have := h.sb
  simp [World.frozen?, this]
theorem PV.ne {base g cap n : Nat} {d : Array Int} {S s : Nat} {W : World} (h : PV base g cap n d S s W) : g ≠ S := by
  rintro rfl
  rcases h.sr.row.2 with ⟨he, _⟩ | ⟨g', cap', cur, he, _, hh, _⟩
  · cases he
  · cases he
    rw [h.sb] at hh
    simp at hh
theorem PV.drewN {base g cap n : Nat} {d : Array Int} {S s : Nat} {W : World} (h : PV base g cap n d S s W) (q : Nat) : PV base g cap n d S s (W.drewN q) := ⟨h.sr.drewN q, h.sb⟩
theorem PV.put {base g cap n : Nat} {d : Array Int} {S s : Nat} {W : World} (h : PV base g cap n d S s W) (s' : Nat) : PV base g cap n d S s' (W.setCell ⟨S, 0, none⟩ (.int .i64 s')) := by
  refine ⟨⟨h.sr.size, h.sr.row.kept (row := some S) (grn_st (grn_rfl _ _) 0 _) (.inr (by simp [Value.ownBlock]; exact h.ne))⟩, ?_⟩
  have := h.sb
  simp [World.setCell, Array.getElem?_modify, this]

/-- What one of the pickers leaves. -/
def PVP (base g cap n : Nat) (d : Array Int) (S s k : Nat) (w : World) (w' : World) : Prop := ∃ s', s' ≤ s + k ∧ PV base g cap n d S s' w' ∧ w.grownBy w' (some S)

set_option maxRecDepth 100000 in
set_option maxHeartbeats 4000000 in
theorem order2_any (base g cap n a b S s : Nat) (d : Array Int) (w : World) (h : PV base g cap n d S s w) (ha : a < n) (hb : b < n) (_hn : n ≤ 1000000) (hs : s ≤ 100) :
    Calls Tryz.prog 217 #[.slice (some ⟨g, 0, none⟩) n cap, .int .i64 a, .int .i64 b, .pointer (some ⟨S, 0, none⟩)] w fun e w' => ∃ x y : Nat, e = .returned (.tuple #[.int .i64 x, .int .i64 y]) ∧ ((x = a ∧ y = b) ∨ (x = b ∧ y = a)) ∧ PVP base g cap n d S s 1 w w' := by
  have c0 := h.sr.cell ha
  have c1 := h.sr.cell hb
  have c2 := h.cell
  have f2 := h.free
  have hai : (a : Int) < (n : Int) := by omega
  have hbi : (b : Int) < (n : Int) := by omega
  have hput := fun q => (h.drewN q).put (s + 1)
  have hgp := fun (q : Nat) (u : Value) => (grown_dN w q (some S)).trans (grn_st (grn_rfl (w.drewN q) (some S)) 0 u)
  generalize d[a]! = X at c0
  generalize d[b]! = Y at c1
  go_enter Tryz.func217, Tryz.ntmps217
  go_wp2_with fail
  go_quiet (first | (go_at_call 189; refine Calls.quiet_of_same (Less_any _ _ _)))
  cases hl : ltInt Y X
  · go_wp2
    go_ret2
    exact ⟨a, b, rfl, .inl ⟨rfl, rfl⟩, s, by omega, h.drewN _, grown_dN _ _ _⟩
  · replace hput := hput nq
    replace hgp := hgp nq
    go_wp2
    go_ret2
    refine ⟨b, a, rfl, .inr ⟨rfl, rfl⟩, s + 1, Nat.le_refl _, ?_, ?_⟩
    · exact hput
    · exact hgp _

set_option maxRecDepth 100000 in
set_option maxHeartbeats 4000000 in
theorem median_any (base g cap n a b c S s : Nat) (d : Array Int) (w : World) (h : PV base g cap n d S s w) (ha : a < n) (hb : b < n) (hc : c < n) (hn : n ≤ 1000000) (hs : s ≤ 90) :
    Calls Tryz.prog 203 #[.slice (some ⟨g, 0, none⟩) n cap, .int .i64 a, .int .i64 b, .int .i64 c, .pointer (some ⟨S, 0, none⟩)] w fun e w' => ∃ x : Nat, e = .returned (.int .i64 x) ∧ (x = a ∨ x = b ∨ x = c) ∧ PVP base g cap n d S s 3 w w' := by
  go_enter Tryz.func203, Tryz.ntmps203
  go_wp2_with fail
  refine (order2_any base g cap n a b S s d w h ha hb hn (by omega)).mono ?_
  rintro e w1 ⟨x1, y1, rfl, hxy1, s1, hs1, h1, hg1⟩
  have hx1 : x1 < n := by omega
  have hy1 : y1 < n := by omega
  go_wp2_with fail
  refine (order2_any base g cap n y1 c S s1 d w1 h1 hy1 hc hn (by omega)).mono ?_
  rintro e w2 ⟨x2, y2, rfl, hxy2, s2, hs2, h2, hg2⟩
  have hx2 : x2 < n := by omega
  go_wp2_with fail
  refine (order2_any base g cap n x1 x2 S s2 d w2 h2 hx1 hx2 hn (by omega)).mono ?_
  rintro e w3 ⟨x3, y3, rfl, hxy3, s3, hs3, h3, hg3⟩
  go_wp2
  go_ret
  exact ⟨y3, rfl, by omega, s3, by omega, h3, (hg1.trans hg2).trans hg3⟩

set_option maxRecDepth 100000 in
set_option maxHeartbeats 4000000 in
theorem medianAdj_any (base g cap n a S s : Nat) (d : Array Int) (w : World) (h : PV base g cap n d S s w) (h0 : 0 < a) (ha : a + 1 < n) (hn : n ≤ 1000000) (hs : s ≤ 90) :
    Calls Tryz.prog 202 #[.slice (some ⟨g, 0, none⟩) n cap, .int .i64 a, .pointer (some ⟨S, 0, none⟩)] w fun e w' => ∃ x : Nat, e = .returned (.int .i64 x) ∧ (x + 1 = a ∨ x = a ∨ x = a + 1) ∧ PVP base g cap n d S s 3 w w' := by
  have hq : (a : Int) - 1 = ((a - 1 : Nat) : Int) := by omega
  have hq2 : (a : Int) + 1 = ((a + 1 : Nat) : Int) := by omega
  have hm := median_any base g cap n (a - 1) a (a + 1) S s d w h (by omega) (by omega) ha hn hs
  rw [← hq, ← hq2] at hm
  clear hq hq2
  go_enter Tryz.func202, Tryz.ntmps202
  go_wp2_with fail
  refine hm.mono ?_
  rintro e w1 ⟨x1, rfl, hx1, s1, hs1, h1, hg1⟩
  clear hm
  go_wp2
  go_ret
  exact ⟨x1, rfl, by omega, s1, hs1, h1, hg1⟩

/-- What choosePivot leaves. -/
def ChP (base g cap n : Nat) (d : Array Int) (a b : Nat) (w : World) (e : Ending) (w' : World) : Prop := ∃ (p : Nat) (t : Int), e = .returned (.tuple #[.int .i64 p, .int .i64 t]) ∧ a ≤ p ∧ p < b ∧ SR base g cap n d w' ∧ Below w.heap.size w w'
theorem PV.start {base g cap n : Nat} {d : Array Int} {W : World} (h : SR base g cap n d W) : PV base g cap n d W.heap.size 0 (W.alloc (.cells #[.int .i64 0] 3)) :=
  ⟨h.later ((Below.refl _ _).alloc (Nat.le_refl _) _), heap_alloc_new _ _⟩

set_option maxRecDepth 100000 in
set_option maxHeartbeats 4000000 in
theorem choosePivot_any (base g cap n a b : Nat) (d : Array Int) (w : World) (h : SR base g cap n d w) (hab : a < b) (hb : b ≤ n) (hn : n ≤ 1000000) :
    Calls Tryz.prog 186 #[.slice (some ⟨g, 0, none⟩) n cap, .int .i64 a, .int .i64 b] w fun e w' => ChP base g cap n d a b w e w' := by
  obtain ⟨l, hl⟩ : ∃ l, l = b - a := ⟨_, rfl⟩
  obtain ⟨m, hm⟩ : ∃ m, m = l / 4 := ⟨_, rfl⟩
  have hq1 : (b : Int) - (a : Int) = (l : Int) := by omega
  have hq2 : (l : Int) / 4 = (m : Int) := by omega
  have hla : a + l = b := by omega
  have hm4 : m * 4 ≤ l := by omega
  have hm5 : l ≤ m * 4 + 3 := by omega
  clear hl hm
  have hP := PV.start h
  have hB : Below w.heap.size w (w.alloc (.cells #[.int .i64 0] 3)) := (Below.refl _ _).alloc (Nat.le_refl _) _
  have hS : w.heap.size ≤ w.heap.size := Nat.le_refl _
  have fin : ∀ (S : Nat) (s k : Nat) (W W' : World), w.heap.size ≤ S → Below w.heap.size w W → PVP base g cap n d S s k W W' → Below w.heap.size w W' := by
    rintro S s k W W' hS hB ⟨_, _, _, hg⟩
    exact hB.trans ⟨hg.os, hg.tape, hg.output, hg.size, fun j hj => hg.block j (Nat.lt_of_lt_of_le hj hB.size) (by simp; omega)⟩
  obtain ⟨I1, hI1⟩ : ∃ I1, I1 = a + m := ⟨_, rfl⟩
  obtain ⟨J1, hJ1⟩ : ∃ J1, J1 = a + m * 2 := ⟨_, rfl⟩
  obtain ⟨K1, hK1⟩ : ∃ K1, K1 = a + m * 3 := ⟨_, rfl⟩
  have hqI : (a : Int) + (m : Int) = (I1 : Int) := by omega
  have hqJ : (a : Int) + (m : Int) * 2 = (J1 : Int) := by omega
  have hqK : (a : Int) + (m : Int) * 3 = (K1 : Int) := by omega
  have hIb : a ≤ I1 ∧ I1 < b ∧ a ≤ J1 ∧ J1 < b ∧ a ≤ K1 ∧ K1 < b := by omega
  have hI50 : 50 ≤ l → a < I1 ∧ I1 + 1 < b ∧ a < J1 ∧ J1 + 1 < b ∧ a < K1 ∧ K1 + 1 < b := by omega
  obtain ⟨i1, i2, j1, j2, k1, k2⟩ := hIb
  have HI := (show Hid _ from hI50)
  clear hI1 hJ1 hK1 hI50
  have hm' : (m : Int) < 1000000 := by omega
  by_cases h8 : 8 ≤ l
  · have hd8 : decide ((8 : Int) ≤ (l : Int)) = true := decide_eq_true (by omega)
    by_cases h50 : 50 ≤ l
    · have hd50 : decide ((50 : Int) ≤ (l : Int)) = true := decide_eq_true (by omega)
      obtain ⟨q1, q2, q3, q4, q5, q6⟩ := HI.out h50
      clear HI
      have HP := (show Hid _ from hP)
      have HB := (show Hid _ from hB)
      clear hP hB h
      go_enter Tryz.func186, Tryz.ntmps186
      go_wp2_with fail
      refine (medianAdj_any base g cap n I1 w.heap.size 0 d _ HP.out (by omega) (by omega) hn (by omega)).mono ?_
      rintro e w1 ⟨x1, rfl, hx1, hv1⟩
      have hB1 := fin _ _ _ _ _ hS HB.out hv1
      obtain ⟨s1, hs1, h1, _⟩ := hv1
      clear HP HB
      go_wp2_with fail
      refine (medianAdj_any base g cap n J1 w.heap.size s1 d _ h1 (by omega) (by omega) hn (by omega)).mono ?_
      rintro e w2 ⟨x2, rfl, hx2, hv2⟩
      have hB2 := fin _ _ _ _ _ hS hB1 hv2
      obtain ⟨s2, hs2, h2, _⟩ := hv2
      clear h1 hB1
      go_wp2_with fail
      refine (medianAdj_any base g cap n K1 w.heap.size s2 d _ h2 (by omega) (by omega) hn (by omega)).mono ?_
      rintro e w3 ⟨x3, rfl, hx3, hv3⟩
      have hB3 := fin _ _ _ _ _ hS hB2 hv3
      obtain ⟨s3, hs3, h3, _⟩ := hv3
      clear h2 hB2
      go_wp2_with fail
      refine (median_any base g cap n x1 x2 x3 w.heap.size s3 d _ h3 (by omega) (by omega) (by omega) hn (by omega)).mono ?_
      rintro e w4 ⟨x4, rfl, hx4, hv4⟩
      have hBE := fin _ _ _ _ _ hS hB3 hv4
      obtain ⟨sE, hs4, hE, _⟩ := hv4
      clear h3 hB3
      have cS := hE.cell
      have hsr := hE.sr
      clear hE
      by_cases hz : sE = 0
      · subst hz
        go_wp2
        go_ret2
        exact ⟨x4, 1, rfl, by omega, by omega, hsr, hBE⟩
      · by_cases h12 : sE = 12
        · subst h12
          go_wp2
          go_ret2
          exact ⟨x4, 2, rfl, by omega, by omega, hsr, hBE⟩
        · have b0 : ((sE : Int) == 0) = false := by rw [beq_eq_false_iff_ne]; omega
          have b12 : ((sE : Int) == 12) = false := by rw [beq_eq_false_iff_ne]; omega
          go_wp2
          go_ret2
          exact ⟨x4, 0, rfl, by omega, by omega, hsr, hBE⟩
    · have hd50 : decide ((50 : Int) ≤ (l : Int)) = false := decide_eq_false (by omega)
      clear HI
      have HP := (show Hid _ from hP)
      have HB := (show Hid _ from hB)
      clear hP hB h
      go_enter Tryz.func186, Tryz.ntmps186
      go_wp2_with fail
      refine (median_any base g cap n I1 J1 K1 w.heap.size 0 d _ HP.out (by omega) (by omega) (by omega) hn (by omega)).mono ?_
      rintro e w4 ⟨x4, rfl, hx4, hv4⟩
      have hBE := fin _ _ _ _ _ hS HB.out hv4
      obtain ⟨sE, hs4, hE, _⟩ := hv4
      clear HP HB
      have cS := hE.cell
      have hsr := hE.sr
      clear hE
      by_cases hz : sE = 0
      · subst hz
        go_wp2
        go_ret2
        exact ⟨x4, 1, rfl, by omega, by omega, hsr, hBE⟩
      · by_cases h12 : sE = 12
        · subst h12
          go_wp2
          go_ret2
          exact ⟨x4, 2, rfl, by omega, by omega, hsr, hBE⟩
        · have b0 : ((sE : Int) == 0) = false := by rw [beq_eq_false_iff_ne]; omega
          have b12 : ((sE : Int) == 12) = false := by rw [beq_eq_false_iff_ne]; omega
          go_wp2
          go_ret2
          exact ⟨x4, 0, rfl, by omega, by omega, hsr, hBE⟩
  · have hd8 : decide ((8 : Int) ≤ (l : Int)) = false := decide_eq_false (by omega)
    clear HI
    have cS := hP.cell
    have hsr := hP.sr
    clear hP h
    go_enter Tryz.func186, Tryz.ntmps186
    go_wp2
    go_ret2
    exact ⟨J1, 1, rfl, by omega, by omega, hsr, hB⟩
end Go.Proofs.YtakaadcpaeiccabGreat

namespace Go.Proofs.YtakaadcpaeiccabGreat
open Go.RowKit Go.Sort

/-- How many bits a byte has. -/
def tab : ByteArray := ⟨#[0, 1, 2, 2, 3, 3, 3, 3, 4, 4, 4, 4, 4, 4, 4, 4, 5, 5, 5, 5, 5, 5, 5, 5, 5, 5, 5, 5, 5, 5, 5, 5, 6, 6, 6, 6, 6, 6, 6, 6, 6, 6, 6, 6, 6, 6, 6, 6, 6, 6, 6, 6, 6, 6, 6, 6, 6, 6, 6, 6, 6, 6, 6, 6, 7, 7, 7, 7, 7, 7, 7, 7, 7, 7, 7, 7, 7, 7, 7, 7, 7, 7, 7, 7, 7, 7, 7, 7, 7, 7, 7, 7, 7, 7, 7, 7, 7, 7, 7, 7, 7, 7, 7, 7, 7, 7, 7, 7, 7, 7, 7, 7, 7, 7, 7, 7, 7, 7, 7, 7, 7, 7, 7, 7, 7, 7, 7, 7, 8, 8, 8, 8, 8, 8, 8, 8, 8, 8, 8, 8, 8, 8, 8, 8, 8, 8, 8, 8, 8, 8, 8, 8, 8, 8, 8, 8, 8, 8, 8, 8, 8, 8, 8, 8, 8, 8, 8, 8, 8, 8, 8, 8, 8, 8, 8, 8, 8, 8, 8, 8, 8, 8, 8, 8, 8, 8, 8, 8, 8, 8, 8, 8, 8, 8, 8, 8, 8, 8, 8, 8, 8, 8, 8, 8, 8, 8, 8, 8, 8, 8, 8, 8, 8, 8, 8, 8, 8, 8, 8, 8, 8, 8, 8, 8, 8, 8, 8, 8, 8, 8, 8, 8, 8, 8, 8, 8, 8, 8, 8, 8, 8, 8, 8, 8, 8, 8, 8, 8, 8, 8, 8, 8, 8, 8, 8, 8]⟩
set_option maxRecDepth 100000 in
theorem tab_ok : ∀ k, (h : k < tab.size) → tab[k].toNat ≤ 8 ∧ (0 < k → 2 ^ tab[k].toNat ≤ 2 * k) := of_decide_eq_true (by kernel_rfl)
theorem w64 {x : Int} (h : 0 ≤ x) (h' : x < 1000) : wrap64 x = x := by
  unfold wrap64
  omega

set_option maxRecDepth 100000 in
set_option maxHeartbeats 4000000 in
theorem len64_any (x : Nat) (hx : x ≤ 1000000) (w : World) :
    Calls Tryz.prog 193 #[.int .u64 x] w fun e w' => ∃ r : Nat, e = .returned (.int .i64 r) ∧ r ≤ 32 ∧ (0 < x → 2 ^ r ≤ 2 * x) ∧ w' = w := by
  have h0 : decide ((4294967296 : Int) ≤ (x : Int)) = false := decide_eq_false (by omega)
  by_cases h1 : 65536 ≤ x
  · have h1' : decide ((65536 : Int) ≤ (x : Int)) = true := decide_eq_true (by omega)
    go_enter Tryz.func193, Tryz.ntmps193
    go_wp2
    generalize hT : UInt8.toNat _ = t
    have hP : t ≤ 8 ∧ (0 < x / 65536 → 2 ^ t ≤ 2 * (x / 65536)) := by
      rw [← hT]
      exact tab_ok _ _
    clear hT
    rw [w64 (x := (t : Int)) (by omega) (by omega), w64 (x := 16 + (t : Int)) (by omega) (by omega)]
    go_ret
    refine ⟨16 + t, by go_num, by omega, fun _ => ?_, rfl⟩
    rw [Nat.pow_add]
    have := hP.2 (by omega)
    omega
  · have h1' : decide ((65536 : Int) ≤ (x : Int)) = false := decide_eq_false (by omega)
    by_cases h2 : 256 ≤ x
    · have h2' : decide ((256 : Int) ≤ (x : Int)) = true := decide_eq_true (by omega)
      go_enter Tryz.func193, Tryz.ntmps193
      go_wp2
      generalize hT : UInt8.toNat _ = t
      have hP : t ≤ 8 ∧ (0 < x / 256 → 2 ^ t ≤ 2 * (x / 256)) := by
        rw [← hT]
        exact tab_ok _ _
      clear hT
      rw [w64 (x := (t : Int)) (by omega) (by omega), w64 (x := 8 + (t : Int)) (by omega) (by omega)]
      go_ret
      refine ⟨8 + t, by go_num, by omega, fun _ => ?_, rfl⟩
      rw [Nat.pow_add]
      have := hP.2 (by omega)
      omega
    · have h2' : decide ((256 : Int) ≤ (x : Int)) = false := decide_eq_false (by omega)
      go_enter Tryz.func193, Tryz.ntmps193
      go_wp2
      generalize hT : UInt8.toNat _ = t
      have hP : t ≤ 8 ∧ (0 < x → 2 ^ t ≤ 2 * x) := by
        rw [← hT]
        exact tab_ok _ _
      clear hT
      rw [w64 (x := (t : Int)) (by omega) (by omega), w64 (x := (t : Int)) (by omega) (by omega)]
      go_ret
      exact ⟨t, rfl, by omega, hP.2, rfl⟩

set_option maxHeartbeats 1000000 in
theorem len_any (x : Nat) (hx : x ≤ 1000000) (w : World) :
    Calls Tryz.prog 173 #[.int .u64 x] w fun e w' => ∃ r : Nat, e = .returned (.int .i64 r) ∧ r ≤ 32 ∧ (0 < x → 2 ^ r ≤ 2 * x) ∧ w' = w := by
  go_enter Tryz.func173, Tryz.ntmps173
  go_wp2_with fail
  refine (len64_any x hx w).mono ?_
  rintro e w' ⟨r, rfl, h1, h2, rfl⟩
  go_wp2
  go_ret
  exact ⟨r, rfl, h1, h2, rfl⟩
set_option maxHeartbeats 1000000 in
theorem nextPow_any (x : Nat) (hx : x ≤ 1000000) (w : World) :
    Calls Tryz.prog 200 #[.int .i64 x] w fun e w' => ∃ r : Nat, e = .returned (.int .u64 ((2 ^ r : Nat) : Int)) ∧ r ≤ 32 ∧ (0 < x → 2 ^ r ≤ 2 * x) ∧ w' = w := by
  go_enter Tryz.func200, Tryz.ntmps200
  go_wp2_with fail
  refine (len_any x hx w).mono ?_
  rintro e w' ⟨r, rfl, h1, h2, rfl⟩
  go_wp2
  have hle : 2 ^ r ≤ 2 ^ 32 := Nat.pow_le_pow_right (by omega) h1
  have hc : ((2 : Int) ^ r) = ((2 ^ r : Nat) : Int) := by simp
  have e : IntKind.u64.wrap ((2 : Int) ^ r) = ((2 ^ r : Nat) : Int) := by
    rw [hc]
    generalize 2 ^ r = q at hle
    simp only [IntKind.wrap, IntKind.signed, IntKind.bits, Bool.false_and, Bool.false_eq_true, if_false]
    omega
  rw [e]
  go_ret
  exact ⟨r, rfl, h1, h2, rfl⟩

theorem xor_b (a b : Int) : 0 ≤ bits .xor .u64 a b ∧ bits .xor .u64 a b < 18446744073709551616 := by
  show 0 ≤ IntKind.u64.wrap _ ∧ IntKind.u64.wrap _ < _
  rw [IntKind.wrap_u64]
  omega
theorem xb_cell {W : World} {S : Nat} {x : Int} {t : TypeId} (h : W.heap[S]? = some (.cells #[.int .u64 x] t)) : W.cell? ⟨S, 0, none⟩ = some (.int .u64 x) ∧ W.frozen? ⟨S, 0, none⟩ = false :=
  ⟨cell_of_row W S 0 _ _ _ h, by simp [World.frozen?, h]⟩
theorem xb_set {W : World} {S : Nat} {x : Int} {t : TypeId} (h : W.heap[S]? = some (.cells #[.int .u64 x] t)) (y : Int) : (W.setCell ⟨S, 0, none⟩ (.int .u64 y)).drew.heap[S]? = some (.cells #[.int .u64 y] t) := by
  show (W.setCell ⟨S, 0, none⟩ (.int .u64 y)).heap[S]? = _
  simp [World.setCell, Array.getElem?_modify, h]
theorem xb_grn (W : World) (S : Nat) (u : Value) : W.grownBy (W.setCell ⟨S, 0, none⟩ u).drew (some S) := (grn_st (grn_rfl W (some S)) 0 u).trans (grown_dN _ 1 _)

set_option maxRecDepth 100000 in
set_option maxHeartbeats 4000000 in
theorem next_any (S : Nat) (x : Int) (w : World) (h : w.heap[S]? = some (.cells #[.int .u64 x] 302)) :
    Calls Tryz.prog 201 #[.pointer (some ⟨S, 0, none⟩)] w fun e w' => ∃ y : Int, e = .returned (.int .u64 y) ∧ (0 ≤ y ∧ y < 18446744073709551616) ∧ w'.heap[S]? = some (.cells #[.int .u64 y] 302) ∧ w.grownBy w' (some S) := by
  have b1 := xor_b x (IntKind.u64.wrap (x * 8192))
  obtain ⟨c0, f0⟩ := xb_cell h
  have h1 := xb_set h (bits .xor .u64 x (IntKind.u64.wrap (x * 8192)))
  have g1 := xb_grn w S (.int .u64 (bits .xor .u64 x (IntKind.u64.wrap (x * 8192))))
  go_enter Tryz.func201, Tryz.ntmps201
  go_wp2_with fail
  go_region
  generalize World.drew _ = W1 at h1 g1 ⊢
  generalize bits .xor .u64 x (IntKind.u64.wrap (x * 8192)) = y at b1 h1
  clear c0 f0 h
  have b2 := xor_b y (y / 128)
  obtain ⟨c0, f0⟩ := xb_cell h1
  have h2 := xb_set h1 (bits .xor .u64 y (y / 128))
  have g2 := xb_grn W1 S (.int .u64 (bits .xor .u64 y (y / 128)))
  have y0 := b1.1
  have y1 := b1.2
  go_wp2_with fail
  go_region
  generalize World.drew _ = W2 at h2 g2 ⊢
  generalize bits .xor .u64 y (y / 128) = z at b2 h2
  clear c0 f0 h1 b1 y0 y1
  have b3 := xor_b z (IntKind.u64.wrap (z * 131072))
  obtain ⟨c0, f0⟩ := xb_cell h2
  have h3 := xb_set h2 (bits .xor .u64 z (IntKind.u64.wrap (z * 131072)))
  have g3 := xb_grn W2 S (.int .u64 (bits .xor .u64 z (IntKind.u64.wrap (z * 131072))))
  go_wp2_with fail
  go_region
  generalize World.drew _ = W3 at h3 g3 ⊢
  generalize bits .xor .u64 z (IntKind.u64.wrap (z * 131072)) = q at b3 h3
  clear c0 f0 h2 b2
  obtain ⟨c0, f0⟩ := xb_cell h3
  go_wp2
  go_ret
  exact ⟨q, rfl, b3, h3, (g1.trans g2).trans g3⟩
end Go.Proofs.YtakaadcpaeiccabGreat

namespace Go.Proofs.YtakaadcpaeiccabGreat
open Go.RowKit Go.Sort

theorem and_mask (y : Int) (y0 : 0 ≤ y) (y1 : y < 18446744073709551616) (r M : Nat) (hr : r ≤ 32) (hM : M + 1 = 2 ^ r) : ∃ z : Nat, bits .and .u64 y (M : Int) = (z : Int) ∧ z ≤ M := by
  have hle : 2 ^ r ≤ 2 ^ 32 := Nat.pow_le_pow_right (by omega) hr
  refine ⟨y.toNat &&& M, ?_, Nat.and_le_right⟩
  rw [u64_and y M y0 y1 (by omega) (by omega)]
  simp
theorem xb_keep {W W' : World} {S g : Nat} {x : Int} {t : TypeId} (h : W.heap[S]? = some (.cells #[.int .u64 x] t)) (hne : S ≠ g) (hg : W.grownBy W' (some g)) : W'.heap[S]? = some (.cells #[.int .u64 x] t) :=
  (hg.block S (Array.getElem?_eq_some_iff.1 h).1 (by simpa using hne)).trans h
theorem SR.keepS {base g cap n : Nat} {d : Array Int} {W W' : World} {S : Nat} (h : SR base g cap n d W) (hne : S ≠ g) (hg : W.grownBy W' (some S)) : SR base g cap n d W' :=
  ⟨h.size, h.row.kept hg (.inr (by simp [Value.ownBlock]; exact fun e => hne e.symm))⟩
theorem grn_new {w W W' : World} {S g : Nat} (h : w.grownBy W (some g)) (k : W.grownBy W' (some S)) (hS : w.heap.size ≤ S) : w.grownBy W' (some g) :=
  ⟨k.os.trans h.os, k.tape.trans h.tape, k.output.trans h.output, Nat.le_trans h.size k.size, fun i hi hne => (k.block i (Nat.lt_of_lt_of_le hi h.size) (by simp; omega)).trans (h.block i hi hne)⟩

set_option maxRecDepth 100000 in
set_option maxHeartbeats 4000000 in
theorem break_any (base g cap n a b : Nat) (d : Array Int) (w : World) (h : SR base g cap n d w) (hab : a < b) (hb : b ≤ n) (hn : n ≤ 1000000) :
    Calls Tryz.prog 185 #[.slice (some ⟨g, 0, none⟩) n cap, .int .i64 a, .int .i64 b] w fun e w' => e = .returned (.tuple #[]) ∧ ∃ d', SR base g cap n d' w' ∧ PermIn a b d d' ∧ w.grownBy w' (some g) := by
  obtain ⟨l, hl⟩ : ∃ l, l = b - a := ⟨_, rfl⟩
  have hq1 : (b : Int) - (a : Int) = (l : Int) := by omega
  have hla : a + l = b := by omega
  clear hl
  by_cases h8 : 8 ≤ l
  · have hd8 : decide ((8 : Int) ≤ (l : Int)) = true := decide_eq_true (by omega)
    obtain ⟨m, hm⟩ : ∃ m, m = l / 4 := ⟨_, rfl⟩
    obtain ⟨E, hE⟩ : ∃ E, E = a + m * 2 := ⟨_, rfl⟩
    obtain ⟨I0, hI0⟩ : ∃ I0, I0 + 1 = E := ⟨E - 1, by omega⟩
    have hq2 : (l : Int) / 4 = (m : Int) := by omega
    have hq3 : (a : Int) + (m : Int) * 2 = (E : Int) := by omega
    have hq4 : (E : Int) - 1 = (I0 : Int) := by omega
    have hm1 : (m : Int) < 1000000 := by omega
    have hE1 : a + 1 ≤ E ∧ E + 1 < b := by omega
    obtain ⟨hE2, hE3⟩ := hE1
    have hgS : g < w.heap.size := (h.row.lt g rfl).2
    have hB1 : Below w.heap.size w (w.alloc (.cells #[.int .u64 l] 302)) := (Below.refl _ _).alloc (Nat.le_refl _) _
    have h0 := h.later hB1
    have hx0 : (w.alloc (.cells #[.int .u64 (l : Int)] 302)).heap[w.heap.size]? = some (.cells #[.int .u64 (l : Int)] 302) := heap_alloc_new _ _
    have hg0 : w.grownBy (w.alloc (.cells #[.int .u64 (l : Int)] 302)) (some g) := World.grownBy_alloc w _ _
    have hI1 : I0 < E := by omega
    have hI2 : I0 + 1 ≤ E + 2 := by omega
    have hI3 : a ≤ I0 := by omega
    clear hm hE hI0 h hB1
    go_enter Tryz.func185, Tryz.ntmps185
    go_wp2_with fail
    refine (nextPow_any l (by omega) _).mono ?_
    rintro e w1 ⟨r, rfl, hr32, hr2, rfl⟩
    have hr3 := hr2 (by omega)
    obtain ⟨M, hM⟩ : ∃ M, M + 1 = 2 ^ r := ⟨2 ^ r - 1, by have : 0 < 2 ^ r := Nat.pow_pos (by omega); omega⟩
    have hMl : M < 2 * l := by omega
    have hAm := fun (y : Int) (y0 : 0 ≤ y) (y1 : y < 18446744073709551616) => and_mask y y0 y1 r M hr32 hM
    have HAM := (show Hid _ from hAm)
    have hP1 : 2 ^ r = M + 1 := hM.symm
    rw [hP1]
    have hqM : ((M + 1 : Nat) : Int) - 1 = (M : Int) := by omega
    obtain ⟨P, hP⟩ : ∃ P, P = M + 1 := ⟨_, rfl⟩
    rw [← hP] at hqM ⊢
    have hP2 : 1 ≤ P := by omega
    clear hr2 hM hAm hP1 hP hr3 hr32
    generalize hS : w.heap.size = S at hx0 hgS
    have HS := (show Hid _ from hS)
    have hSg : S ≠ g := by omega
    go_wp2_with fail
    generalize World.alloc _ _ = W0 at h0 hx0 hg0 ⊢
    clear hS
    go_loopw [9] (fun vi wr => ∃ (I : Nat) (dk : Array Int) (x : Int), vi = .int .i64 I ∧ I ≤ E + 2 ∧ a ≤ I ∧ SR base g cap n dk wr ∧ w.grownBy wr (some g) ∧ wr.heap[S]? = some (.cells #[.int .u64 x] 302) ∧ PermIn a b d dk) (fun vi _ => E + 2 - (intOf vi).toNat)
    case atStart => exact ⟨I0, d, l, rfl, by omega, hI3, h0, hg0, hx0, permIn_refl _ _ _⟩
    case round =>
      clear h0 hg0 hx0
      obtain ⟨I, dk, x, rfl, hIE, haI, h1, hg1, hx1, hp⟩ := hrel
      by_cases hlt : I ≤ E + 1
      · have hd1 : decide ((I : Int) ≤ (E : Int) + 1) = true := decide_eq_true (by omega)
        have hnx := next_any S x _ hx1
        go_wp2_with fail
        refine hnx.mono ?_
        rintro e W1 ⟨y, rfl, ⟨y0, y1⟩, hx2, hgx⟩
        clear hnx hx1
        have hg2 := grn_new hg1 hgx (by rw [HS.out]; exact Nat.le_refl _)
        replace h1 := h1.keepS hSg hgx
        clear hg1 hgx
        have hg1 := hg2
        have hx1 := hx2
        clear hg2 hx2
        obtain ⟨z, hz, hzM⟩ := HAM.out y y0 y1
        by_cases hzl : l ≤ z
        · have hdz : decide ((l : Int) ≤ (z : Int)) = true := decide_eq_true (by omega)
          obtain ⟨o, ho⟩ : ∃ o, o + l = z := ⟨z - l, by omega⟩
          have hqz : (z : Int) - (l : Int) = (o : Int) := by omega
          have hol : o < l := by omega
          clear ho
          have cR := h1.cell (j := I) (by omega)
          have cC := h1.cell (j := a + o) (by omega)
          have fR := h1.free I
          have fC := h1.free (a + o)
          have hs' := (h1.drewN 1).swap I (a + o)
          have hg' := hg1.trans ((grown_dN _ 1 (some g)).trans (grown_swap _ g I (a + o) (.int .u32 dk[a + o]!) (.int .u32 dk[I]!)))
          have hx' := xb_keep hx1 hSg ((grown_dN W1 1 (some g)).trans (grown_swap _ g I (a + o) (.int .u32 dk[a + o]!) (.int .u32 dk[I]!)))
          have hp' := permIn_trans _ _ _ _ _ hp (swp_permIn dk a b I (a + o) (by omega) (by omega) (by omega) (by omega) (by rw [h1.size]; exact hb))
          have hfr : (I : Int) < (n : Int) := by omega
          have hfc : (a : Int) + (o : Int) < (n : Int) := by omega
          by_cases he : I = a + o
          · rw [← he] at cC fC hs' hg' hx' hp'
            have hqo : (a : Int) + (o : Int) = (I : Int) := by omega
            generalize dk[I]! = X at cR cC hs' hg' hx'
            clear he h1 hg1 hx1 cC fC
            go_wp2_with fail
            go_region
            all_goals
              go_wp2
              go_roundw
              case rel => exact ⟨I + 1, _, _, by go_num, by omega, by omega, hs', hg', hx', hp'⟩
              case measure => simp [intOf] <;> omega
          · generalize dk[I]! = X at cR hs' hg' hx'
            generalize dk[a + o]! = Y at cC hs' hg' hx'
            clear h1 hg1 hx1
            go_wp2_with fail
            go_region
            all_goals
              go_wp2
              go_roundw
              case rel => exact ⟨I + 1, _, _, by go_num, by omega, by omega, hs', hg', hx', hp'⟩
              case measure => simp [intOf] <;> omega
        · have hdz : decide ((l : Int) ≤ (z : Int)) = false := decide_eq_false (by omega)
          have hzl' : z < l := by omega
          have cR := h1.cell (j := I) (by omega)
          have cC := h1.cell (j := a + z) (by omega)
          have fR := h1.free I
          have fC := h1.free (a + z)
          have hs' := (h1.drewN 1).swap I (a + z)
          have hg' := hg1.trans ((grown_dN _ 1 (some g)).trans (grown_swap _ g I (a + z) (.int .u32 dk[a + z]!) (.int .u32 dk[I]!)))
          have hx' := xb_keep hx1 hSg ((grown_dN W1 1 (some g)).trans (grown_swap _ g I (a + z) (.int .u32 dk[a + z]!) (.int .u32 dk[I]!)))
          have hp' := permIn_trans _ _ _ _ _ hp (swp_permIn dk a b I (a + z) (by omega) (by omega) (by omega) (by omega) (by rw [h1.size]; exact hb))
          have hfr : (I : Int) < (n : Int) := by omega
          have hfc : (a : Int) + (z : Int) < (n : Int) := by omega
          by_cases he : I = a + z
          · rw [← he] at cC fC hs' hg' hx' hp'
            have hqo : (a : Int) + (z : Int) = (I : Int) := by omega
            generalize dk[I]! = X at cR cC hs' hg' hx'
            clear he h1 hg1 hx1 cC fC
            go_wp2_with fail
            go_region
            all_goals
              go_wp2
              go_roundw
              case rel => exact ⟨I + 1, _, _, by go_num, by omega, by omega, hs', hg', hx', hp'⟩
              case measure => simp [intOf] <;> omega
          · generalize dk[I]! = X at cR hs' hg' hx'
            generalize dk[a + z]! = Y at cC hs' hg' hx'
            clear h1 hg1 hx1
            go_wp2_with fail
            go_region
            all_goals
              go_wp2
              go_roundw
              case rel => exact ⟨I + 1, _, _, by go_num, by omega, by omega, hs', hg', hx', hp'⟩
              case measure => simp [intOf] <;> omega
      · have hd1 : decide ((I : Int) ≤ (E : Int) + 1) = false := decide_eq_false (by omega)
        go_wp2
        go_returns
        exact ⟨rfl, dk, h1, hp, hg1⟩
  · have hd8 : decide ((8 : Int) ≤ (l : Int)) = false := decide_eq_false (by omega)
    go_enter Tryz.func185, Tryz.ntmps185
    go_wp2
    go_returns
    exact ⟨rfl, d, h, permIn_refl _ _ _, grn_rfl _ _⟩
end Go.Proofs.YtakaadcpaeiccabGreat
