import Derived.Test.YtakaadcpaeiccabGreatC47
import Derived.Deep.QuietTactic
import Derived.Deep.CutBlock
import Derived.Deep.RegionHeld3
namespace Go.Proofs.YtakaadcpaeiccabGreat
open Go.RowKit Go.Maps

/-! What is asked of a mesh: has, Runs, may; isNothing. -/
theorem MM.cell {y : MG} {m : Msh} {W : World} (h : MM y m W) : W.cell? ⟨y.G, 0, none⟩ = some (.int .u64 m.now) ∧ W.cell? ⟨y.G, 1, none⟩ = some y.sv ∧ W.cell? ⟨y.G, 2, none⟩ = some y.av ∧ ∀ j, W.frozen? ⟨y.G, j, none⟩ = false :=
  ⟨cell_of_row _ _ 0 _ _ _ h.blk, cell_of_row _ _ 1 _ _ _ h.blk, cell_of_row _ _ 2 _ _ _ h.blk, fun j => by simp [World.frozen?, h.blk]⟩
theorem MM.svf {y : MG} {m : Msh} {W : World} (h : MM y m W) : ∃ ao c, y.sv = .slice ao m.S.length c := by
  obtain ⟨ao, c, e, _⟩ := row_form h.sts
  exact ⟨ao, c, e⟩
/-- The station with a number. -/
theorem MM.get {y : MG} {m : Msh} {W : World} (h : MM y m W) {i : Nat} (hi : i < m.S.length) : ∃ x s b c, y.L[i]? = some x ∧ m.S[i]? = some s ∧ m.at' i = s ∧ y.sv = .slice (some ⟨b, 0, none⟩) m.S.length c ∧ W.cell? ⟨b, i, none⟩ = some (.pointer (some ⟨x.B, 0, none⟩)) := by
  have hl : i < y.L.length := by rw [h.len]; exact hi
  have h1 : y.L[i]? = some y.L[i] := List.getElem?_eq_getElem hl
  have h2 : m.S[i]? = some m.S[i] := List.getElem?_eq_getElem hi
  obtain ⟨b, c, e, _⟩ := row_shape' h.sts (by omega)
  refine ⟨_, _, b, c, h1, h2, ?_, e, ?_⟩
  · unfold Msh.at'
    rw [List.getD_eq_getElem?_getD, h2]
    rfl
  · have hs := h.sts
    rw [e] at hs
    refine (hs.cellAt i (by simpa using hi)).trans ?_
    unfold PtC
    rw [List.getElem?_map, h1]
    rfl

set_option maxHeartbeats 1000000 in
theorem M_has {y : MG} {m : Msh} {w : World} (h : MM y m w) (i : Int) : Calls Tryz.prog 38 #[.pointer (some ⟨y.G, 0, none⟩), .int .i64 i] w fun e w' => e = .returned (.bool (m.has i)) ∧ w' = w := by
  obtain ⟨c0, c1, c2, fz⟩ := h.cell
  obtain ⟨ao, c, e⟩ := h.svf
  rw [e] at c1
  clear h e c0 c2 fz
  have hm : ∀ b, b = m.has i → Value.bool b = Value.bool (m.has i) := by rintro _ rfl; rfl
  unfold Msh.has at hm ⊢
  by_cases hi : 0 ≤ i
  · by_cases hl : i < (m.S.length : Int)
    · have e1 : (decide (0 ≤ i) && decide (i < (m.S.length : Int))) = true := by simp [hi, hl]
      rw [e1] at hm ⊢
      go_enter Tryz.func38, Tryz.ntmps38
      go_wp2
      go_ret
      simp
    · have e1 : (decide (0 ≤ i) && decide (i < (m.S.length : Int))) = false := by simp [hl]
      rw [e1] at hm ⊢
      go_enter Tryz.func38, Tryz.ntmps38
      go_wp2
      go_ret
      simp
  · have e1 : (decide (0 ≤ i) && decide (i < (m.S.length : Int))) = false := by simp [hi]
    rw [e1] at hm ⊢
    go_enter Tryz.func38, Tryz.ntmps38
    go_wp2
    go_ret
    simp

set_option maxHeartbeats 1000000 in
theorem M_Runs {y : MG} {m : Msh} {w : World} (h : MM y m w) (i : Int) : Calls Tryz.prog 13 #[.pointer (some ⟨y.G, 0, none⟩), .int .i64 i] w fun e w' => e = .returned (.bool (m.runs i)) ∧ w' = w := by
  obtain ⟨c0, c1, c2, fz⟩ := h.cell
  have HH := hide (M_has h i)
  obtain ⟨b, hb⟩ : ∃ b, m.has i = b := ⟨_, rfl⟩
  have hr : m.runs i = (b && (m.at' i.toNat).nd.isSome) := by unfold Msh.runs; rw [hb]
  rw [hr]
  rw [hb] at HH
  cases b
  · clear c0 c1 c2 fz hr
    go_enter Tryz.func13, Tryz.ntmps13
    go_wp2_with fail
    refine Calls.mono HH.out ?_
    rintro e w2 ⟨rfl, rfl⟩
    go_wp2
    go_ret
    simp
  · unfold Msh.has at hb
    simp only [Bool.and_eq_true, decide_eq_true_eq] at hb
    obtain ⟨k, rfl⟩ := Int.eq_ofNat_of_zero_le hb.1
    have hk : k < m.S.length := by omega
    have hk' : (k : Int) < (m.S.length : Int) := by omega
    obtain ⟨x, s, g, c, h1, h2, h3, e, d0⟩ := h.get hk
    obtain ⟨_, _, b2, _⟩ := (h.st k x s h1 h2).cell
    rw [e] at c1
    simp only [Int.ofNat_eq_natCast, Int.toNat_natCast]
    rw [h3]
    clear c0 c2 fz hr h h1 h2 h3 e hb
    cases hnd : s.nd with
    | none =>
      rw [hnd] at b2
      unfold ndV at b2
      go_enter Tryz.func13, Tryz.ntmps13
      go_wp2_with fail
      refine Calls.mono HH.out ?_
      rintro e w2 ⟨rfl, rfl⟩
      go_wp2
      go_ret
      simp
    | some z =>
      rw [hnd] at b2
      unfold ndV at b2
      go_enter Tryz.func13, Tryz.ntmps13
      go_wp2_with fail
      refine Calls.mono HH.out ?_
      rintro e w2 ⟨rfl, rfl⟩
      go_wp2
      go_ret
      simp
end Go.Proofs.YtakaadcpaeiccabGreat

namespace Go.Proofs.YtakaadcpaeiccabGreat
open Go.RowKit Go.Maps

/-! May a step be done? Is nothing done? -/
def opV (o : Op) : Value := .agg #[.int .i64 o.dow, .int .i64 o.a, .int .i64 o.b, .int .i64 o.n, .bool o.on, .string o.txt]

set_option maxRecDepth 100000 in
set_option maxHeartbeats 4000000 in
theorem M_may {y : MG} {m : Msh} {w : World} (h : MM y m w) (o : Op) : Calls Tryz.prog 28 #[.pointer (some ⟨y.G, 0, none⟩), opV o] w fun e w' => e = .returned (.bool (m.may o)) ∧ Below w.heap.size w w' := by
  have hb0 : Below w.heap.size w (w.alloc (.cells #[.int .i64 o.dow, .int .i64 o.a, .int .i64 o.b, .int .i64 o.n, .bool o.on, .string o.txt] 28)) := (Below.refl _ _).alloc (Nat.le_refl _) _
  have hC := heap_alloc_new w (.cells #[.int .i64 o.dow, .int .i64 o.a, .int .i64 o.b, .int .i64 o.n, .bool o.on, .string o.txt] 28)
  have h1 := h.later hb0
  obtain ⟨dow, a, b, n, on, txt⟩ := o
  dsimp only at hb0 hC h1
  have Ha := hide (M_has h1 a)
  have Hb := hide (M_has h1 b)
  have Hr := hide (M_Runs h1 a)
  unfold Msh.may
  dsimp only
  obtain ⟨ha, e1⟩ : ∃ z, m.has a = z := ⟨_, rfl⟩
  obtain ⟨hb, e2⟩ : ∃ z, m.has b = z := ⟨_, rfl⟩
  obtain ⟨hr, e3⟩ : ∃ z, m.runs a = z := ⟨_, rfl⟩
  rw [e1] at Ha
  rw [e2] at Hb
  rw [e3] at Hr
  rw [e1, e2, e3]
  obtain ⟨R, hR⟩ : ∃ R, (if dow = 1 then ha && hb else if dow = 2 ∨ dow = 8 then hr && hb else if dow = 9 ∨ dow = 10 then hr else if dow = 11 then ha && !hr else true) = R := ⟨_, rfl⟩
  rw [hR]
  replace hR := hide hR
  clear h h1 e1 e2 e3
  unfold opV
  dsimp only
  go_enter Tryz.func28, Tryz.ntmps28
  go_upto_region 1 with (fail)
  generalize World.alloc _ _ = W1 at hb0 hC Ha Hb Hr ⊢
  generalize hCC : w.heap.size = C at hC ⊢
  have t0 : W1.cell? ⟨C, 0, none⟩ = some (.int .i64 dow) := cell_of_row _ _ 0 _ _ _ hC
  have t1 : W1.cell? ⟨C, 1, none⟩ = some (.int .i64 a) := cell_of_row _ _ 1 _ _ _ hC
  have t2 : W1.cell? ⟨C, 2, none⟩ = some (.int .i64 b) := cell_of_row _ _ 2 _ _ _ hC
  clear hC hCC
  by_cases d1 : dow = 1
  · subst d1
    cases ha
    · go_wp2_with fail
      refine Calls.mono Ha.out ?_
      rintro e w2 ⟨rfl, rfl⟩
      go_wp2
      go_ret
      exact ⟨by rw [← hR.out]; simp [*], hb0⟩
    · go_wp2_with fail
      refine Calls.mono Ha.out ?_
      rintro e w2 ⟨rfl, rfl⟩
      go_wp2_with fail
      refine Calls.mono Hb.out ?_
      rintro e w2 ⟨rfl, rfl⟩
      go_wp2
      go_ret
      exact ⟨by rw [← hR.out]; simp [*], hb0⟩
  by_cases d2 : dow = 2 ∨ dow = 8
  · cases hr
    · rcases d2 with rfl | rfl <;>
      · go_wp2_with fail
        refine Calls.mono Hr.out ?_
        rintro e w2 ⟨rfl, rfl⟩
        go_wp2
        go_ret
        exact ⟨by rw [← hR.out]; simp [*], hb0⟩
    · rcases d2 with rfl | rfl <;>
      · go_wp2_with fail
        refine Calls.mono Hr.out ?_
        rintro e w2 ⟨rfl, rfl⟩
        go_wp2_with fail
        refine Calls.mono Hb.out ?_
        rintro e w2 ⟨rfl, rfl⟩
        go_wp2
        go_ret
        exact ⟨by rw [← hR.out]; simp [*], hb0⟩
  by_cases d3 : dow = 9 ∨ dow = 10
  · rcases d3 with rfl | rfl <;>
    · go_wp2_with fail
      refine Calls.mono Hr.out ?_
      rintro e w2 ⟨rfl, rfl⟩
      go_wp2
      go_ret
      exact ⟨by rw [← hR.out]; simp [*], hb0⟩
  by_cases d4 : dow = 11
  · subst d4
    cases ha
    · go_wp2_with fail
      refine Calls.mono Ha.out ?_
      rintro e w2 ⟨rfl, rfl⟩
      go_wp2
      go_ret
      exact ⟨by rw [← hR.out]; simp [*], hb0⟩
    · go_wp2_with fail
      refine Calls.mono Ha.out ?_
      rintro e w2 ⟨rfl, rfl⟩
      go_wp2_with fail
      refine Calls.mono Hr.out ?_
      rintro e w2 ⟨rfl, rfl⟩
      go_wp2
      go_ret
      exact ⟨by rw [← hR.out]; simp [*], hb0⟩
  · simp only [not_or] at d2 d3
    obtain ⟨d21, d22⟩ := d2
    obtain ⟨d31, d32⟩ := d3
    go_wp2
    go_ret
    exact ⟨by rw [← hR.out]; simp [*], hb0⟩

theorem str_empty (j : ByteArray) : (j.size = 0 → j.toList = []) ∧ (j.size ≠ 0 → ¬ j.toList = []) := by
  have h := emptyB j
  constructor
  · intro e
    rw [decide_eq_true e] at h
    exact List.isEmpty_iff.1 h
  · intro e k
    rw [k, decide_eq_false e] at h
    cases h

set_option maxHeartbeats 2000000 in
theorem isNothing_any (j : ByteArray) (rep : Bool) (fa ca da : Option Addr) (fn fc cn cc dn dc : Nat) (hb : fn + cn + dn ≤ 1000000) (w : World) : Calls Tryz.prog 66 #[outV j rep (.slice fa fn fc) (.slice ca cn cc) (.slice da dn dc)] w fun e w' => e = .returned (.bool (decide (j.size = 0) && !rep && decide (fn + cn + dn = 0))) ∧ Below w.heap.size w w' := by
  have hb0 : Below w.heap.size w (w.alloc (.cells #[.string j, .bool rep, .slice fa fn fc, .slice ca cn cc, .slice da dn dc] 52)) := (Below.refl _ _).alloc (Nat.le_refl _) _
  have w1 : wrap64 ((fn : Int) + (cn : Int)) = (fn : Int) + (cn : Int) := by unfold wrap64; omega
  have w2 : wrap64 ((fn : Int) + (cn : Int) + (dn : Int)) = (fn : Int) + (cn : Int) + (dn : Int) := by unfold wrap64; omega
  have e0 : ((fn : Int) + (cn : Int) + (dn : Int) == 0) = decide (fn + cn + dn = 0) := by
    by_cases h : fn + cn + dn = 0
    · have : (fn : Int) + (cn : Int) + (dn : Int) = 0 := by omega
      simp [h, this]
    · have : ¬ (fn : Int) + (cn : Int) + (dn : Int) = 0 := by omega
      rw [decide_eq_false h]
      simpa using this
  obtain ⟨r, hr⟩ : ∃ r, decide (fn + cn + dn = 0) = r := ⟨_, rfl⟩
  rw [hr] at e0 ⊢
  clear hr hb
  obtain ⟨q1, q2⟩ := str_empty j
  unfold outV
  by_cases hj : j.size = 0
  · have hj' := q1 hj
    rw [decide_eq_true hj]
    clear q1 q2 hj
    cases rep
    · go_enter Tryz.func66, Tryz.ntmps66
      go_wp2
      go_ret
      exact ⟨by simp, hb0⟩
    · go_enter Tryz.func66, Tryz.ntmps66
      go_wp2
      go_ret
      exact ⟨by simp, hb0⟩
  · have hj' := q2 hj
    rw [decide_eq_false hj]
    clear q1 q2 hj
    cases rep
    · go_enter Tryz.func66, Tryz.ntmps66
      go_wp2
      go_ret
      exact ⟨by simp [hj'], hb0⟩
    · go_enter Tryz.func66, Tryz.ntmps66
      go_wp2
      go_ret
      exact ⟨by simp [hj'], hb0⟩
end Go.Proofs.YtakaadcpaeiccabGreat

namespace Go.Proofs.YtakaadcpaeiccabGreat
open Go.RowKit Go.Maps

/-! A station writes its journal. -/
theorem jrn_size {L : List (Bool × Int × Int)} (hb : RBd L) : strNums (strOfNums (flatR L)) = flatR L ∧ (strOfNums (flatR L)).size = 13 * L.length := by
  have h := strNums_of (flatR_b hb)
  refine ⟨h, ?_⟩
  rw [← strNums_length, h, flatR_length]
theorem Stn.write_no {s : Stn} {o : Ot} (h1 : o.nws = []) (h2 : o.rep = false) : s.write o = (s, true) := by
  unfold Stn.write
  rw [h1, h2]
  rfl
theorem Stn.write_torn {s : Stn} {o : Ot} (h1 : o.nws ≠ [] ∨ o.rep = true) (ht : s.tears = true) : s.write o = ({ s with jrn := if o.rep then s.jrn else s.jrn ++ (flatR o.nws).take s.whole.toNat }.stop, false) := by
  unfold Stn.write
  rw [if_neg (by
    rcases h1 with h | h
    · cases hn : o.nws with
      | nil => exact absurd hn h
      | cons a l => simp
    · simp [h]), if_pos ht]
theorem Stn.write_whole {s : Stn} {o : Ot} (h1 : o.nws ≠ [] ∨ o.rep = true) (ht : s.tears = false) : s.write o = ({ s with jrn := (if o.rep then [] else s.jrn) ++ flatR o.nws }, true) := by
  unfold Stn.write
  rw [if_neg (by
    rcases h1 with h | h
    · cases hn : o.nws with
      | nil => exact absurd hn h
      | cons a l => simp
    · simp [h]), if_neg (by simp [ht])]

theorem StP.comp {x x1 : SG} {s s1 s' : Stn} {w w1 w' : World} (b1 : x1.B = x.B) (f1 : Fx (StIn x s) w w1) (u1 : ∀ k, StIn x1 s1 k → StIn x s k ∨ (w.heap.size ≤ k ∧ k < w1.heap.size)) (h2 : StP x1 s1 s' w1 w') : StP x s s' w w' := by
  obtain ⟨x2, b2, m2, f2, u2⟩ := h2
  have := f1.size
  have := f2.size
  refine ⟨x2, b2.trans b1, m2, f1.trans f2 fun k hk hs => (u1 k hs).elim id fun h => by omega, fun k hk => ?_⟩
  rcases u2 k hk with h | h
  · exact (u1 k h).imp_right fun h => by omega
  · exact .inr (by omega)

set_option maxRecDepth 100000 in
set_option maxHeartbeats 4000000 in
theorem St_write {x : SG} {s : Stn} {w : World} (h : StM x s w) (o : Ot) (frm cam drp : Value) (hb : RBd o.nws) (hl : o.nws.length ≤ 50000) (hj : s.jrn.length ≤ 1000000) (hw : 0 ≤ s.whole) :
    Calls Tryz.prog 62 #[.pointer (some ⟨x.B, 0, none⟩), outV (strOfNums (flatR o.nws)) o.rep frm cam drp] w fun e w' => e = .returned (.bool (s.write o).2) ∧ StP x s (s.write o).1 w w' := by
  obtain ⟨i0, hi, hz0, hz1, hz2⟩ := info_parts info_u8
  obtain ⟨j1, j2⟩ := jrn_size hb
  have hb0 : Below w.heap.size w (w.alloc (.cells #[.string (strOfNums (flatR o.nws)), .bool o.rep, frm, cam, drp] 52)) := (Below.refl _ _).alloc (Nat.le_refl _) _
  have hC := heap_alloc_new w (.cells #[.string (strOfNums (flatR o.nws)), .bool o.rep, frm, cam, drp] 52)
  have h1 := h.later hb0
  by_cases hno : o.nws = [] ∧ o.rep = false
  · rw [Stn.write_no hno.1 hno.2]
    have hs0 : (strOfNums (flatR o.nws)).size = 0 := by rw [j2, hno.1]; rfl
    have q1 := (str_empty _).1 hs0
    rw [hno.2] at hb0 hC h1 ⊢
    generalize strOfNums (flatR o.nws) = j at hb0 hC h1 q1 ⊢
    have hfin := StP.pre hb0 (StP.refl h1)
    clear h hno hs0 j1 j2 hC h1 hb0
    unfold outV
    go_enter Tryz.func62, Tryz.ntmps62
    go_wp2
    go_ret
    exact ⟨rfl, hfin⟩
  have hno' : o.nws ≠ [] ∨ o.rep = true := by
    by_cases e : o.nws = []
    · refine .inr ?_
      cases hr : o.rep
      · exact absurd ⟨e, hr⟩ hno
      · rfl
    · exact .inl e
  have hg : (strOfNums (flatR o.nws)).toList = [] → o.rep = true := fun e => by
    rcases hno' with h | h
    · refine absurd e ((str_empty _).2 ?_)
      rw [j2]
      have := List.length_pos_iff.2 h
      omega
    · exact h
  cases ht : s.tears
  · rw [Stn.write_whole hno' ht]
    have hsrc := fun W => src_str (strOfNums (flatR o.nws)) W
    have hjs : (strOfNums (flatR o.nws)).size ≤ 1000000 := by omega
    rw [j1] at hsrc
    obtain ⟨nsz, hnsz⟩ : ∃ n, (strOfNums (flatR o.nws)).size = n := ⟨_, rfl⟩
    have hfl : (flatR o.nws).length = nsz := by rw [flatR_length, ← j2, hnsz]
    rw [hnsz] at hsrc hjs
    clear hno hno' h hb hl j1 j2 hnsz
    generalize strOfNums (flatR o.nws) = j at hb0 hC h1 hsrc hg ⊢
    generalize flatR o.nws = ns at hsrc hfl ⊢
    obtain ⟨_, c1, _, c9, _, _, fz⟩ := h1.cell
    rw [ht] at c9
    have f1 := fz 1
    have hlen : s.jrn.length + nsz ≤ maxLen := by unfold maxLen; omega
    have hlen2 : (s.jrn.length + nsz) * 1 ≤ 140737488355328 := by omega
    replace hsrc := hide hsrc
    cases hr : o.rep
    · rw [hr] at hb0 hC h1 hg c1 c9 f1
      have hg' : ¬ j.toList = [] := fun e => by cases hg e
      simp only [Bool.false_eq_true, if_false]
      clear fz hg
      unfold outV
      go_enter Tryz.func62, Tryz.ntmps62
      go_upto_region 1 with (fail)
      generalize World.alloc _ _ = W1 at hb0 hC h1 c1 c9 f1 ⊢
      have hrow := h1.drew.row
      have hfin := fun v7 w7 (ho : w7.ownsRow 0 5 1 v7 (s.jrn.length + ns.length) (U s.jrn ++ U ns)) (hg : W1.drew.grownBy w7 x.jv.ownBlock) (hv : v7.ownBlock = x.jv.ownBlock ∨ v7.ownBlock = some W1.drew.heap.size) => StP.pre hb0.drew (h1.drew.add ho hg hv).2
      have hkp := fun v7 w7 (ho : w7.ownsRow 0 5 1 v7 (s.jrn.length + ns.length) (U s.jrn ++ U ns)) (hg : W1.drew.grownBy w7 x.jv.ownBlock) (hv : v7.ownBlock = x.jv.ownBlock ∨ v7.ownBlock = some W1.drew.heap.size) => (h1.drew.add ho hg hv).1
      rw [hfl] at hfin hkp
      replace hfin := hide hfin
      replace hkp := hide hkp
      generalize w.heap.size = C at hC ⊢
      have t0 : W1.cell? ⟨C, 0, none⟩ = some (.string j) := cell_of_row _ _ 0 _ _ _ hC
      have t1 : W1.cell? ⟨C, 1, none⟩ = some (.bool false) := cell_of_row _ _ 1 _ _ _ hC
      clear hC h1 hb0 hfl ht hr
      go_upto_region 9 with (fail)
      go_region_law (refine step_append_any rfl (.tmp 31) (.tmp 33) 58 9 rfl 0 5 i0 (.int .u8 0) 1 1 Tryz.underlying58 hi hz0 hz1 hz2 rfl x.jv s.jrn.length (U s.jrn) ?h1 hrow (.string j) nsz (U ns) ?h2 (hsrc.out _) hlen hlen2 (Nat.zero_le _) ?_; (case h1 => simp [Act.eval, Act.put]); (case h2 => simp [Act.eval, Act.put]); intro v7 w7 ho7 hg7 hv7; obtain ⟨g1, g2⟩ := hkp.out v7 w7 ho7 hg7 hv7; have hm := hfin.out v7 w7 ho7 hg7 hv7; obtain ⟨ao7, cc7, rfl, _⟩ := row_form ho7)
      all_goals
        clear g1 g2 hg7 ho7
        go_wp2
        go_ret
        exact ⟨rfl, hm⟩
    · rw [hr] at hb0 hC h1 hg c1 c9 f1
      simp only [if_true]
      clear fz hg
      unfold outV
      go_enter Tryz.func62, Tryz.ntmps62
      go_upto_region 1 with (fail)
      generalize World.alloc _ _ = W1 at hb0 hC h1 c1 c9 f1 ⊢
      have hn := h1.nil
      have hB := some_lt h1.blk
      generalize hCC : w.heap.size = C at hC ⊢
      have hne : x.B ≠ C := fun e => by
        have h2 := h1.blk
        rw [e, hC] at h2
        cases h2
      have t0 : W1.cell? ⟨C, 0, none⟩ = some (.string j) := cell_of_row _ _ 0 _ _ _ hC
      have t1 : W1.cell? ⟨C, 1, none⟩ = some (.bool true) := cell_of_row _ _ 1 _ _ _ hC
      have hg2 : W1.grownBy (W1.setCell ⟨x.B, 1, none⟩ (.slice none 0 0)) (some x.B) := grown_cellOf (grown_self _ (some x.B)) 1 _
      have t2 : (W1.setCell ⟨x.B, 1, none⟩ (.slice none 0 0)).cell? ⟨C, 0, none⟩ = some (.string j) := (World.cell?_of_block (a := ⟨C, 0, none⟩) (hg2.block C (some_lt hC) fun e => hne (Option.some.inj e).symm)).trans t0
      have hc1 : (W1.setCell ⟨x.B, 1, none⟩ (.slice none 0 0)).cell? ⟨x.B, 1, none⟩ = some (.slice none 0 0) := by
        have hb := blk_set (j := 1) (v := .slice none 0 0) h1.blk
        exact (cell_of_row _ _ 1 _ _ _ hb).trans (by simp [stC])
      obtain ⟨x1, b1, m1, k1, u1⟩ := hn
      have hjv : x1.jv = .slice none 0 0 := by
        have c := m1.cell.2.1
        rw [b1, hc1] at c
        exact (Option.some.inj c).symm
      have hf2 := (m1.drew.cell.2.2.2.2.2.2 1)
      rw [b1] at hf2
      have hfin := fun v7 w7 (ho : w7.ownsRow 0 5 1 v7 (0 + nsz) ([] ++ U ns)) (hg : (W1.setCell ⟨x.B, 1, none⟩ (.slice none 0 0)).drew.grownBy w7 (Value.slice none 0 0).ownBlock) (hv : v7.ownBlock = (Value.slice none 0 0).ownBlock ∨ v7.ownBlock = some (W1.setCell ⟨x.B, 1, none⟩ (.slice none 0 0)).drew.heap.size) => (show (w7.cell? ⟨x.B, 1, none⟩ = some (.slice none 0 0) ∧ w7.frozen? ⟨x.B, 1, none⟩ = false) ∧ StP x s { s with jrn := [] ++ ns } w (w7.setCell ⟨x.B, 1, none⟩ v7) from by
        obtain ⟨q1, q2⟩ := m1.drew.add (ns := ns) (v7 := v7) (w7 := w7) (by rw [hfl]; exact ho) (by rw [hjv]; exact hg) (by rw [hjv]; exact hv)
        rw [b1, hjv] at q1
        rw [b1] at q2
        exact ⟨q1, StP.pre hb0 (StP.comp b1 (k1.trans (Fx.below (S := StIn x s) (Below.refl _ _).drew) (fun _ _ h => h)) u1 q2)⟩)
      have hrow : (W1.setCell ⟨x.B, 1, none⟩ (.slice none 0 0)).drew.ownsRow 0 5 1 (.slice none 0 0) 0 [] := ⟨rfl, .inl ⟨rfl, rfl⟩⟩
      have hfz := (m1.cell.2.2.2.2.2.2 1)
      rw [b1] at hfz
      clear hC ht hr hb0 hB hg2 k1 u1 h1 m1 hne hfl
      replace hfin := hide hfin
      have hnl : (Value.slice none 0 0).ownBlock = none := rfl
      by_cases hje : j.toList = []
      · go_upto_region 9 with (fail)
        go_region_law (refine step_append_any rfl (.tmp 31) (.tmp 33) 58 9 rfl 0 5 i0 (.int .u8 0) 1 1 Tryz.underlying58 hi hz0 hz1 hz2 rfl (.slice none 0 0) 0 [] ?h1 hrow (.string j) nsz (U ns) ?h2 (hsrc.out _) ?h3 ?h4 (Nat.zero_le _) ?_; (case h1 => simp [Act.eval, Act.put]); (case h2 => simp [Act.eval, Act.put]); (case h3 => omega); (case h4 => omega); intro v7 w7 ho7 hg7 hv7; obtain ⟨⟨g1, g2⟩, hm⟩ := hfin.out v7 w7 ho7 hg7 hv7; rw [Nat.zero_add] at ho7; obtain ⟨ao7, cc7, rfl, _⟩ := row_form ho7)
        all_goals
          clear g1 g2 hg7 ho7
          go_wp2
          go_ret
          exact ⟨rfl, hm⟩
      · go_upto_region 9 with (fail)
        go_region_law (refine step_append_any rfl (.tmp 31) (.tmp 33) 58 9 rfl 0 5 i0 (.int .u8 0) 1 1 Tryz.underlying58 hi hz0 hz1 hz2 rfl (.slice none 0 0) 0 [] ?h1 hrow (.string j) nsz (U ns) ?h2 (hsrc.out _) ?h3 ?h4 (Nat.zero_le _) ?_; (case h1 => simp [Act.eval, Act.put]); (case h2 => simp [Act.eval, Act.put]); (case h3 => omega); (case h4 => omega); intro v7 w7 ho7 hg7 hv7; obtain ⟨⟨g1, g2⟩, hm⟩ := hfin.out v7 w7 ho7 hg7 hv7; rw [Nat.zero_add] at ho7; obtain ⟨ao7, cc7, rfl, _⟩ := row_form ho7)
        all_goals
          clear g1 g2 hg7 ho7
          go_wp2
          go_ret
          exact ⟨rfl, hm⟩
  · rw [Stn.write_torn hno' ht]
    have hjs : (strOfNums (flatR o.nws)).size ≤ 1000000 := by omega
    obtain ⟨_, c1, _, c9, _, _, fz⟩ := h1.cell
    rw [ht] at c9
    have HW := St_writeTorn h1 (strOfNums (flatR o.nws)) o.rep frm cam drp hjs hj hw
    rw [j1] at HW
    replace HW := hide HW
    clear hno hno' h hb hl j1 j2 hjs c1 fz hi hz0 hz1 hz2
    generalize strOfNums (flatR o.nws) = j at hb0 hC h1 hg HW c9 ⊢
    obtain ⟨s1, hs1⟩ : ∃ s1, ({ s with jrn := if o.rep then s.jrn else s.jrn ++ (flatR o.nws).take s.whole.toNat } : Stn) = s1 := ⟨_, rfl⟩
    rw [hs1] at HW ⊢
    clear hs1
    generalize o.rep = rp at hb0 hC h1 hg HW c9 ⊢
    clear h1
    unfold outV at HW ⊢
    go_enter Tryz.func62, Tryz.ntmps62
    go_upto_region 1 with (fail)
    generalize World.alloc _ _ = W1 at hb0 hC HW c9 ⊢
    generalize hCC : w.heap.size = C at hC ⊢
    have t0 : W1.cell? ⟨C, 0, none⟩ = some (.string j) := cell_of_row _ _ 0 _ _ _ hC
    have t1 : W1.cell? ⟨C, 1, none⟩ = some (.bool rp) := cell_of_row _ _ 1 _ _ _ hC
    have t2 : W1.cell? ⟨C, 2, none⟩ = some frm := cell_of_row _ _ 2 _ _ _ hC
    have t3 : W1.cell? ⟨C, 3, none⟩ = some cam := cell_of_row _ _ 3 _ _ _ hC
    have t4 : W1.cell? ⟨C, 4, none⟩ = some drp := cell_of_row _ _ 4 _ _ _ hC
    clear hC hCC
    by_cases hje : j.toList = []
    · obtain rfl := hg hje
      clear hg
      go_wp2_with fail
      refine Calls.mono HW.out ?_
      rintro e w2 ⟨rfl, hm⟩
      obtain ⟨x1, b1, m1, k1, u1⟩ := hm
      have HS := St_stop m1
      rw [b1] at HS
      replace HS := hide HS
      clear HW m1 c9 t0 t1 t2 t3 t4
      go_wp2_with fail
      refine Calls.mono HS.out ?_
      rintro e w3 ⟨rfl, hm⟩
      have hfin := StP.pre hb0 (StP.comp b1 k1 u1 hm)
      clear HS hm k1 u1 hb0
      go_wp2
      go_ret
      exact ⟨rfl, hfin⟩
    · clear hg
      go_wp2_with fail
      refine Calls.mono HW.out ?_
      rintro e w2 ⟨rfl, hm⟩
      obtain ⟨x1, b1, m1, k1, u1⟩ := hm
      have HS := St_stop m1
      rw [b1] at HS
      replace HS := hide HS
      clear HW m1 c9 t0 t1 t2 t3 t4
      go_wp2_with fail
      refine Calls.mono HS.out ?_
      rintro e w3 ⟨rfl, hm⟩
      have hfin := StP.pre hb0 (StP.comp b1 k1 u1 hm)
      clear HS hm k1 u1 hb0
      go_wp2
      go_ret
      exact ⟨rfl, hfin⟩
end Go.Proofs.YtakaadcpaeiccabGreat

namespace Go.Proofs.YtakaadcpaeiccabGreat
open Go.RowKit Go.Maps

/-! A station's node begins. -/
theorem below_set5 {n D : Nat} {a w : World} (h : Below n a w) (hD : n ≤ D) (v0 v1 v2 v3 v4 : Value) : Below n a (((((w.setCell ⟨D, 0, none⟩ v0).setCell ⟨D, 1, none⟩ v1).setCell ⟨D, 2, none⟩ v2).setCell ⟨D, 3, none⟩ v3).setCell ⟨D, 4, none⟩ v4) :=
  ((((h.setCell (p := ⟨D, 0, none⟩) hD _).setCell (p := ⟨D, 1, none⟩) hD _).setCell (p := ⟨D, 2, none⟩) hD _).setCell (p := ⟨D, 3, none⟩) hD _).setCell (p := ⟨D, 4, none⟩) hD _
/-- What is done in a call, as a value in a block of its own. -/
def OutB (D : Nat) (j : ByteArray) (rep : Bool) (frm cam drp : Value) (W : World) : Prop := W.heap[D]? = some (.cells #[.string j, .bool rep, frm, cam, drp] 52)
theorem OutB.set5 {D : Nat} {j j' : ByteArray} {rep rep' : Bool} {frm cam drp frm' cam' drp' : Value} {w : World} (h : OutB D j rep frm cam drp w) : OutB D j' rep' frm' cam' drp' (((((w.setCell ⟨D, 0, none⟩ (.string j')).setCell ⟨D, 1, none⟩ (.bool rep')).setCell ⟨D, 2, none⟩ frm').setCell ⟨D, 3, none⟩ cam').setCell ⟨D, 4, none⟩ drp') := by
  unfold OutB at h ⊢
  simp [World.setCell, Array.getElem?_modify, h]
theorem OutB.cell {D : Nat} {j : ByteArray} {rep : Bool} {frm cam drp : Value} {W : World} (h : OutB D j rep frm cam drp W) : W.cell? ⟨D, 0, none⟩ = some (.string j) ∧ W.cell? ⟨D, 1, none⟩ = some (.bool rep) ∧ W.cell? ⟨D, 2, none⟩ = some frm ∧ W.cell? ⟨D, 3, none⟩ = some cam ∧ W.cell? ⟨D, 4, none⟩ = some drp ∧ ∀ i, W.frozen? ⟨D, i, none⟩ = false :=
  ⟨cell_of_row _ _ 0 _ _ _ h, cell_of_row _ _ 1 _ _ _ h, cell_of_row _ _ 2 _ _ _ h, cell_of_row _ _ 3 _ _ _ h, cell_of_row _ _ 4 _ _ _ h, fun i => frozen_of_row W D i _ _ h⟩
theorem grown_set5 (w : World) (D : Nat) (v0 v1 v2 v3 v4 : Value) : w.grownBy (((((w.setCell ⟨D, 0, none⟩ v0).setCell ⟨D, 1, none⟩ v1).setCell ⟨D, 2, none⟩ v2).setCell ⟨D, 3, none⟩ v3).setCell ⟨D, 4, none⟩ v4) (some D) :=
  grown_cellOf (grown_cellOf (grown_cellOf (grown_cellOf (grown_cellOf (grown_self w (some D)) 0 v0) 1 v1) 2 v2) 3 v3) 4 v4
/-- The rows of what is done in a call. -/
structure OutR (b : Nat) (frs cms : List (Int × ByteArray)) (drs : List Int) (frm cam drp : Value) (W : World) : Prop where
  frm : W.ownsRow b 77 2 frm frs.length (FrC frs)
  cam : W.ownsRow b 56 2 cam cms.length (FrC cms)
  drp : W.ownsRow b 195 1 drp drs.length (DrC drs)
theorem OutR.at {b : Nat} {frs cms : List (Int × ByteArray)} {drs : List Int} {frm cam drp : Value} {W W' : World} (h : OutR b frs cms drs frm cam drp W) (he : ∀ (k : Nat) (c : Array Value) (t : Nat), t ∈ ([77, 56, 195] : List Nat) → W.heap[k]? = some (Obj.cells c t (0, 0)) → W'.heap[k]? = W.heap[k]?) : OutR b frs cms drs frm cam drp W' := by
  refine ⟨row_at h.frm fun k hk => ?_, row_at h.cam fun k hk => ?_, row_at h.drp fun k hk => ?_⟩
  · obtain ⟨c, hc⟩ := row_obj h.frm hk
    exact he k c 77 (by decide) hc
  · obtain ⟨c, hc⟩ := row_obj h.cam hk
    exact he k c 56 (by decide) hc
  · obtain ⟨c, hc⟩ := row_obj h.drp hk
    exact he k c 195 (by decide) hc
theorem OutR.later {b : Nat} {frs cms : List (Int × ByteArray)} {drs : List Int} {frm cam drp : Value} {W W' : World} (h : OutR b frs cms drs frm cam drp W) (hb : Below W.heap.size W W') : OutR b frs cms drs frm cam drp W' := h.at fun k _ _ _ hk => hb.block k (some_lt hk)
theorem OutR.lower {b b' : Nat} {frs cms : List (Int × ByteArray)} {drs : List Int} {frm cam drp : Value} {W : World} (h : OutR b frs cms drs frm cam drp W) (hb : b' ≤ b) : OutR b' frs cms drs frm cam drp W := ⟨ownsRow_base_a h.frm hb, ownsRow_base_a h.cam hb, ownsRow_base_a h.drp hb⟩
/-- A node that has been made beside what was there. -/
structure NewR (z : St) (b : Nat) (N : Nat) (g : NdG) (frm cam drp : Value) (W : World) : Prop where
  nn : Nn N g z [] W
  out : OutR b z.frs z.cms z.drs frm cam drp W
  ge : ∀ k, Ft N g z k → b ≤ k
theorem NewR.set {z : St} {b N D : Nat} {g : NdG} {frm cam drp : Value} {W W' : World} (h : NewR z b N g frm cam drp W) {c : Array Value} (hD : W.heap[D]? = some (.cells c 52 (0, 0))) (hg : W.grownBy W' (some D)) : NewR z b N g frm cam drp W' := by
  refine ⟨h.nn.kept fun k hk => hg.block k (h.nn.lt hk) fun e => ?_, h.out.at fun k c' t ht hk => hg.block k (some_lt hk) fun e => ?_, h.ge⟩
  · cases e
    obtain ⟨o, ho, hK⟩ := h.nn.kind hk
    rw [hD] at ho
    cases ho
    exact hK.not (by decide)
  · cases e
    rw [hD] at hk
    cases hk
    exact absurd ht (by decide)
theorem NewR.later {z : St} {b N : Nat} {g : NdG} {frm cam drp : Value} {W W' : World} (h : NewR z b N g frm cam drp W) (hb : Below W.heap.size W W') : NewR z b N g frm cam drp W' := ⟨h.nn.later hb, h.out.later hb, h.ge⟩
/-- What stands behind 'NewNode' in boot. -/
def BootC (z : St) (W1 : World) (nv ov : Value) (W : World) : Prop := ∃ N g frm cam drp D, nv = .pointer (some ⟨N, 0, none⟩) ∧ ov = .pointer (some ⟨D, 0, none⟩) ∧ OutB D z.jrn z.rep frm cam drp W ∧ NewR z W1.heap.size N g frm cam drp W ∧ W1.heap.size ≤ D ∧ Below W1.heap.size W1 W
theorem boot_alloc {z : St} {W1 w2 : World} {N : Nat} {g : NdG} {frm cam drp : Value} (hb : Below W1.heap.size W1 w2) (h : NewR z W1.heap.size N g frm cam drp w2) : BootC z W1 (.pointer (some ⟨N, 0, none⟩)) (.pointer (some ⟨w2.heap.size, 0, none⟩)) (w2.alloc (.cells #[.string z.jrn, .bool z.rep, frm, cam, drp] 52)) :=
  ⟨N, g, frm, cam, drp, _, rfl, rfl, heap_alloc_new _ _, h.later ((Below.refl _ _).alloc (Nat.le_refl _) _), hb.size, hb.alloc hb.size _⟩
theorem boot_set {z : St} {W1 w2 : World} {N : Nat} {g : NdG} {frm cam drp : Value} {j0 : ByteArray} {r0 : Bool} {f0 c0 d0 : Value} (hb : Below W1.heap.size W1 w2) (h : NewR z W1.heap.size N g frm cam drp w2) (hD : Hid (OutB W1.heap.size j0 r0 f0 c0 d0 w2)) : BootC z W1 (.pointer (some ⟨N, 0, none⟩)) (.pointer (some ⟨W1.heap.size, 0, none⟩)) (((((w2.setCell ⟨W1.heap.size, 0, none⟩ (.string z.jrn)).setCell ⟨W1.heap.size, 1, none⟩ (.bool z.rep)).setCell ⟨W1.heap.size, 2, none⟩ frm).setCell ⟨W1.heap.size, 3, none⟩ cam).setCell ⟨W1.heap.size, 4, none⟩ drp) :=
  ⟨N, g, frm, cam, drp, _, rfl, rfl, hD.out.set5, h.set hD.out (grown_set5 _ _ _ _ _ _ _), Nat.le_refl _, below_set5 hb (Nat.le_refl _) _ _ _ _ _⟩
theorem out_new (W : World) : OutB W.heap.size ⟨#[]⟩ false (.slice none 0 0) (.slice none 0 0) (.slice none 0 0) (W.alloc (.cells #[.string ⟨#[]⟩, .bool false, .slice none 0 0, .slice none 0 0, .slice none 0 0] 52)).drew := heap_alloc_new W _
/-- What a region of boot reads. -/
@[reducible] def SBt (B : Nat) (a : Int) (jv : Value) (W0 W : World) : Prop := (W.cell? ⟨B, 0, none⟩ = some (.int .u32 a) ∧ W.cell? ⟨B, 1, none⟩ = some jv) ∧ Below W0.heap.size W0 W
theorem SBt.of {x : SG} {s : Stn} {W0 W : World} (h : StM x s W0) (hb : Below W0.heap.size W0 W) : SBt x.B s.addr x.jv W0 W := ⟨⟨(h.later hb).cell.1, (h.later hb).cell.2.1⟩, hb⟩
theorem SBt.kAlloc {B : Nat} {a : Int} {jv : Value} {W0 W : World} {o : Obj} (hk : Hid (∀ W5, Below W0.heap.size W0 W5 → SBt B a jv W0 W5)) (h : Below W0.heap.size W0 W) : SBt B a jv W0 (W.alloc o) := hk.out _ (h.alloc h.size _)
theorem SBt.kAllocDrew {B : Nat} {a : Int} {jv : Value} {W0 : World} {o : Obj} (hk : Hid (∀ W5, Below W0.heap.size W0 W5 → SBt B a jv W0 W5)) : SBt B a jv W0 (W0.alloc o).drew := hk.out _ ((Below.refl _ _).alloc (Nat.le_refl _) _).drew
theorem SBt.kSet5 {B : Nat} {a : Int} {jv : Value} {W0 W : World} {v0 v1 v2 v3 v4 : Value} (hk : Hid (∀ W5, Below W0.heap.size W0 W5 → SBt B a jv W0 W5)) (h : Below W0.heap.size W0 W) : SBt B a jv W0 (((((W.setCell ⟨W0.heap.size, 0, none⟩ v0).setCell ⟨W0.heap.size, 1, none⟩ v1).setCell ⟨W0.heap.size, 2, none⟩ v2).setCell ⟨W0.heap.size, 3, none⟩ v3).setCell ⟨W0.heap.size, 4, none⟩ v4) := hk.out _ (below_set5 h (Nat.le_refl _) _ _ _ _ _)

/-- A station may begin. -/
structure BootOk (s : Stn) (now : Int) : Prop where
  addr : U32 s.addr
  a0 : s.addr ≠ 0
  jb : ∀ x ∈ s.jrn, 0 ≤ x ∧ x ≤ 255
  jl : s.jrn.length ≤ 50000
  now : 0 ≤ now ∧ now ≤ 4611686018427387904
theorem rdJ_len : ∀ (f : Nat) (xs : List Int), (rdJ f xs).length ≤ f
  | 0, _ => Nat.le_refl _
  | f + 1, xs => by
    unfold rdJ
    split
    · have := rdJ_len f (xs.drop 13)
      simp only [List.length_cons]
      omega
    · simp
theorem jl_len (xs : List Int) : (jl xs).length ≤ xs.length := rdJ_len _ _
theorem getD_b {xs : List Int} (h : ∀ x ∈ xs, 0 ≤ x ∧ x ≤ 255) (i : Nat) : 0 ≤ xs.getD i 0 ∧ xs.getD i 0 ≤ 255 := by
  rw [List.getD_eq_getElem?_getD]
  cases hi : xs[i]? with
  | none => simp
  | some v => exact h v (List.mem_of_getElem? hi)
theorem rdJ_bd : ∀ (f : Nat) (xs : List Int), (∀ x ∈ xs, 0 ≤ x ∧ x ≤ 255) → RBd (rdJ f xs)
  | 0, _, _ => fun _ h => by cases h
  | f + 1, xs, h => by
    unfold rdJ
    split
    · intro x hx
      rcases List.mem_cons.1 hx with rfl | hx
      · exact ⟨n4_b (getD_b h _) (getD_b h _) (getD_b h _) (getD_b h _), n4_b (getD_b h _) (getD_b h _) (getD_b h _) (getD_b h _)⟩
      · exact rdJ_bd f (xs.drop 13) (fun x hx => h x (List.mem_of_mem_drop hx)) x hx
    · intro x hx
      cases hx
theorem jl_bd {xs : List Int} (h : ∀ x ∈ xs, 0 ≤ x ∧ x ≤ 255) : RBd (jl xs) := rdJ_bd _ _ h
theorem boot_call {x : SG} {s : Stn} {W1 : World} (h : StM x s W1) (now : Int) (hs : BootOk s now) : ∀ W5, Below W1.heap.size W1 W5 → Calls Tryz.prog 19 #[.int .u32 s.addr, x.jv, .int .u64 now] W5 fun e w' => ∃ N g af kf ac kc ad kd, e = .returned (.tuple #[.pointer (some ⟨N, 0, none⟩), .agg #[.string (St.new s.addr s.jrn now).jrn, .bool (St.new s.addr s.jrn now).rep, .slice af (St.new s.addr s.jrn now).frs.length kf, .slice ac (St.new s.addr s.jrn now).cms.length kc, .slice ad (St.new s.addr s.jrn now).drs.length kd], .int .i64 0]) ∧ Below W1.heap.size W1 w' ∧ (∀ j r f c d, OutB W1.heap.size j r f c d W5 → OutB W1.heap.size j r f c d w') ∧ NewR (St.new s.addr s.jrn now) W1.heap.size N g (.slice af (St.new s.addr s.jrn now).frs.length kf) (.slice ac (St.new s.addr s.jrn now).cms.length kc) (.slice ad (St.new s.addr s.jrn now).drs.length kd) w' := by
  intro W5 hb
  refine (N_NewNode s.addr now hs.addr hs.a0 x.jv s.jrn W5 (rest_row (h.later hb).row hs.jb) (by have := hs.jl; omega) (jl_bd hs.jb) (by have := jl_len s.jrn; have := hs.jl; omega) hs.now).mono ?_
  rintro e w' ⟨N, g, frm, cam, drp, rfl, nn, r1, r2, r3, hb', hge⟩
  have := hb.size
  obtain ⟨af, kf, rfl, _⟩ := row_form r1
  obtain ⟨ac, kc, rfl, _⟩ := row_form r2
  obtain ⟨ad, kd, rfl, _⟩ := row_form r3
  exact ⟨N, g, af, kf, ac, kc, ad, kd, rfl, hb.trans (hb'.mono hb.size), fun j r f c d ho => (hb'.block _ (some_lt (show W5.heap[W1.heap.size]? = _ from ho))).trans ho, nn, (⟨r1, r2, r3⟩ : OutR _ _ _ _ _ _ _ w').lower hb.size, fun k hk => by have := hge k hk; omega⟩

set_option maxRecDepth 100000 in
set_option maxHeartbeats 4000000 in
theorem St_boot {x : SG} {s : Stn} {w : World} (h : StM x s w) (hnd : s.nd = none) (now : Int) (hs : BootOk s now) : Calls Tryz.prog 37 #[.pointer (some ⟨x.B, 0, none⟩), .int .u64 now] w fun e w' => ∃ frm cam drp, e = .returned (outV (St.new s.addr s.jrn now).jrn (St.new s.addr s.jrn now).rep frm cam drp) ∧ StP x s { s with nd := some (St.new s.addr s.jrn now) } w w' ∧ OutR w.heap.size (St.new s.addr s.jrn now).frs (St.new s.addr s.jrn now).cms (St.new s.addr s.jrn now).drs frm cam drp w' := by
  have hb0 : Below w.heap.size w (w.alloc (.cells #[.string ⟨#[]⟩, .bool false, .slice none 0 0, .slice none 0 0, .slice none 0 0] 52)) := (Below.refl _ _).alloc (Nat.le_refl _) _
  have hC := heap_alloc_new w (.cells #[.string ⟨#[]⟩, .bool false, .slice none 0 0, .slice none 0 0, .slice none 0 0] 52)
  have h1 := h.later hb0
  have hQz : (St.new s.addr s.jrn now).Q = [] := by rw [St.new_eq, (finish_same _).Q]; rfl
  have HN0 := hide (fun W1 (h1 : StM x s W1) => boot_call h1 now hs)
  obtain ⟨z, hz⟩ : ∃ z, St.new s.addr s.jrn now = z := ⟨_, rfl⟩
  rw [hz] at hQz HN0 ⊢
  clear hz
  replace hQz := hide hQz
  go_enter Tryz.func37, Tryz.ntmps37
  go_upto_region 1 with (fail)
  generalize World.alloc _ _ = W1 at hb0 hC h1 ⊢
  have HN := hide (HN0.out W1 h1)
  clear HN0
  have hkB := (show Hid _ from fun W5 (h5 : Below W1.heap.size W1 W5) => SBt.of h1 h5)
  have hS : SBt x.B s.addr x.jv W1 W1.drew := hkB.out _ (Below.refl _ _).drew
  have hwC : w.heap.size < W1.heap.size := some_lt hC
  go_cut [5, 6] from 9 to 21 (BootC z W1)
  case first =>
    clear hs hnd h h1 hb0 hC
    go_region_held3 (SBt x.B s.addr x.jv W1) (first | with_reducible exact hS | with_reducible assumption | (with_reducible apply SBt.kSet5 hkB; assumption) | (with_reducible apply SBt.kAlloc hkB; assumption) | (with_reducible apply SBt.kAllocDrew hkB) | (with_reducible apply hkB.out; assumption)) ((go_at_call 19; refine (HN.out _ (And.right (by assumption))).mono ?_; rintro e w2 ⟨N, g, af, kf, ac, kc, ad, kd, rfl, hb2, hpr, hnr⟩; try ((with_reducible have hD := hpr _ _ _ _ _ (out_new W1)); have hD' : Hid (OutB W1.heap.size ⟨#[]⟩ false (.slice none 0 0) (.slice none 0 0) (.slice none 0 0) w2) := hD; obtain ⟨d0, d1, d2, d3, d4, dq⟩ := hD'.out.cell; have q0 := dq 0; have q1 := dq 1; have q2 := dq 2; have q3 := dq 3; have q4 := dq 4; clear hD dq); clear hpr))
    all_goals
      go_wp2_with fail
      go_meet
      first | with_reducible exact boot_alloc hb2 hnr | with_reducible exact boot_set hb2 hnr hD'
  case rest =>
    obtain ⟨N, g, frm, cam, drp, D, rfl, rfl, hD, hnr, hDl, hb2⟩ := hcut
    have hm2 := h1.later hb2
    have hCw := (hb2.block _ hwC).trans hC
    have f2 := hm2.cell.2.2.2.2.2.2 2
    have c2 := hm2.cell.2.2.1
    have hg : wc.grownBy (wc.setCell ⟨x.B, 2, none⟩ (.pointer (some ⟨N, 0, none⟩))) (some x.B) := grown_cellOf (grown_self _ (some x.B)) 2 _
    have hBl := some_lt hm2.blk
    have hBw := some_lt h.blk
    have hCB : w.heap.size ≠ x.B := by omega
    have hDB : D ≠ x.B := by have := some_lt h1.blk; omega
    have hD3 : OutB D z.jrn z.rep frm cam drp (wc.setCell ⟨x.B, 2, none⟩ (.pointer (some ⟨N, 0, none⟩))) := (hg.block D (some_lt hD) fun e => hDB (Option.some.inj e)).trans hD
    have hC3 : OutB w.heap.size ⟨#[]⟩ false (.slice none 0 0) (.slice none 0 0) (.slice none 0 0) (wc.setCell ⟨x.B, 2, none⟩ (.pointer (some ⟨N, 0, none⟩))) := (hg.block w.heap.size (some_lt hCw) fun e => hCB (Option.some.inj e)).trans hCw
    have hnr3 : NewR z W1.heap.size N g frm cam drp (wc.setCell ⟨x.B, 2, none⟩ (.pointer (some ⟨N, 0, none⟩))) :=
      ⟨hnr.nn.kept fun k hk => hg.block k (hnr.nn.lt hk) (fun e => by cases e; have := hnr.ge _ hk; have := some_lt h1.blk; omega), hnr.out.at fun k c t ht hk => hg.block k (some_lt hk) (fun e => by
        cases e
        rw [hm2.blk] at hk
        cases hk
        exact absurd ht (by decide)), hnr.ge⟩
    have hbl3 := blk_set (j := 2) (v := .pointer (some ⟨N, 0, none⟩)) hm2.blk
    have hrow3 := hm2.row.kept hg (.inr (row_not hm2.row hm2.blk (fun c e => (by cases e))))
    have hf3 : Fx (StIn x s) w (wc.setCell ⟨x.B, 2, none⟩ (.pointer (some ⟨N, 0, none⟩))) := grown_Fx (Fx.below (hb0.trans (hb2.mono hb0.size))) hg fun i _ e => by cases e; exact .inl rfl
    have hz3 := hb2.size
    clear hnr hD hCw hm2 hg h1 hs hC hkB hS HN
    go_upto_region 3 with (fail)
    generalize World.setCell _ _ _ = W3 at hD3 hC3 hnr3 hbl3 hrow3 hf3 ⊢
    obtain ⟨d0, d1, d2, d3, d4, _⟩ := hD3.cell
    obtain ⟨z0, z1, z2, z3, z4, zf⟩ := hC3.cell
    have y0 := zf 0
    have y1 := zf 1
    have y2 := zf 2
    have y3 := zf 3
    have y4 := zf 4
    obtain ⟨af, kf, rfl, _⟩ := row_form hnr3.out.frm
    obtain ⟨ac, kc, rfl, _⟩ := row_form hnr3.out.cam
    obtain ⟨ad, kd, rfl, _⟩ := row_form hnr3.out.drp
    have hgC := grown_set5 W3 w.heap.size (.string z.jrn) (.bool z.rep) (.slice af z.frs.length kf) (.slice ac z.cms.length kc) (.slice ad z.drs.length kd)
    have hC4 := hC3.set5 (j' := z.jrn) (rep' := z.rep) (frm' := .slice af z.frs.length kf) (cam' := .slice ac z.cms.length kc) (drp' := .slice ad z.drs.length kd)
    have hfin : StP x s { s with nd := some z } w (((((W3.setCell ⟨w.heap.size, 0, none⟩ (.string z.jrn)).setCell ⟨w.heap.size, 1, none⟩ (.bool z.rep)).setCell ⟨w.heap.size, 2, none⟩ (.slice af z.frs.length kf)).setCell ⟨w.heap.size, 3, none⟩ (.slice ac z.cms.length kc)).setCell ⟨w.heap.size, 4, none⟩ (.slice ad z.drs.length kd)) ∧ OutR w.heap.size z.frs z.cms z.drs (.slice af z.frs.length kf) (.slice ac z.cms.length kc) (.slice ad z.drs.length kd) (((((W3.setCell ⟨w.heap.size, 0, none⟩ (.string z.jrn)).setCell ⟨w.heap.size, 1, none⟩ (.bool z.rep)).setCell ⟨w.heap.size, 2, none⟩ (.slice af z.frs.length kf)).setCell ⟨w.heap.size, 3, none⟩ (.slice ac z.cms.length kc)).setCell ⟨w.heap.size, 4, none⟩ (.slice ad z.drs.length kd)) := by
      have hnr4 := hnr3.set hC3 hgC
      have hsz := hgC.size
      have hszC := some_lt hC3
      refine ⟨⟨{ x with N := N, g := g, TL := [] }, rfl, ⟨?_, h.hl, ?_, fun u hu => ?_⟩, grown_Fx hf3 hgC fun i hi e => by cases e; omega, fun k hk => ?_⟩, hnr4.out.lower (by omega)⟩
      · exact (hgC.block x.B (some_lt hbl3) fun e => hCB (Option.some.inj e).symm).trans hbl3
      · exact hrow3.kept hgC (.inr (row_not hrow3 hC3 (fun c e => (by cases e))))
      · cases hu
        refine ⟨hnr4.nn, ?_⟩
        unfold TmOk
        rw [hQz.out]
        exact List.Perm.refl _
      · rcases hk with hk | hk | ⟨u, hu, hk⟩
        · exact .inl (.inl hk)
        · exact .inl (.inr (.inl hk))
        · cases hu
          have h2 := hnr4.ge k hk
          have h3 := hnr4.nn.lt hk
          exact .inr ⟨by omega, h3⟩
    clear hgC hnr3 hC3 hD3 hrow3 hbl3 hf3 zf
    go_wp2_with fail
    generalize World.setCell _ _ _ = W7 at hC4 hfin ⊢
    obtain ⟨p0, p1, p2, p3, p4, _⟩ := hC4.cell
    exact bodyPost_ret (v := .agg #[.string z.jrn, .bool z.rep, .slice af z.frs.length kf, .slice ac z.cms.length kc, .slice ad z.drs.length kd]) (by simp [results, Tryz.results37, go_sem, p0, p1, p2, p3, p4]) rfl ⟨_, _, _, rfl, hfin.1, hfin.2⟩
end Go.Proofs.YtakaadcpaeiccabGreat
