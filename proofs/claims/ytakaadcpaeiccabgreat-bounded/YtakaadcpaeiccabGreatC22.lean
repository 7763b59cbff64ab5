import Derived.Test.YtakaadcpaeiccabGreatC21
import Derived.BigRegion
import Derived.Deep.RegionHeld3
namespace Go.Proofs.YtakaadcpaeiccabGreat
open Go.RowKit Go.Maps
open Hp

theorem TC_set : ∀ (h : List Tm) (i : Nat) (x : Tm), (((TC h).set (i * 3) (.int .u64 x.1)).set (i * 3 + 1) (.int .i64 x.2.1)).set (i * 3 + 2) (.int .i64 x.2.2) = TC (h.set i x)
  | [], i, x => by simp [TC]
  | a :: h, 0, x => by simp [TC, tmC]
  | a :: h, i + 1, x => by
    have ih := TC_set h i x
    simp only [TC, List.flatMap_cons, List.set_cons_succ] at ih ⊢
    rw [← ih]
    simp only [tmC, List.cons_append, List.nil_append, show (i + 1) * 3 = i * 3 + 1 + 1 + 1 by omega, List.set_cons_succ]
theorem TBk.kept {T M : Nat} {last : Int} {v : Value} {W W' : World} {r : Option Nat} (h : TBk T M last v W) (hg : W.grownBy W' r) (hne : some T ≠ r) : TBk T M last v W' := (hg.block T h.lt hne).trans h
theorem grown_st {A B : World} {g : Nat} (h : A.grownBy B (some g)) (j : Nat) (v : Value) : A.grownBy (B.setCell ⟨g, j, none⟩ v) (some g) :=
  ⟨h.os, h.tape, h.output, by simpa using h.size, fun i hi hne => (Below.heap_setCell B ⟨g, j, none⟩ v i (fun e => hne (by rw [e]))).trans (h.block i hi hne)⟩
theorem grown_dr {A B : World} {r : Option Nat} (h : A.grownBy B r) : A.grownBy B.drew r := ⟨h.os, h.tape, h.output, h.size, h.block⟩
theorem grown_rfl (A : World) (r : Option Nat) : A.grownBy A r := ⟨rfl, rfl, rfl, Nat.le_refl _, fun _ _ _ => rfl⟩
theorem ok_id {base T M : Nat} {last : Int} {h : List Tm} {v : Value} {W : World} (r : TR base T M last h v W) {i : Nat} (hi : i < h.length) : I64 (at' h i).2.1 :=
  (r.ok _ (List.mem_of_getElem? (at_get hi))).2.1

set_option maxRecDepth 100000 in
set_option maxHeartbeats 4000000 in
theorem swap_ne (base T M : Nat) (last : Int) (h : List Tm) (v : Value) (w : World) (r : TR base T M last h v w) (i j : Nat) (hi : i < h.length) (hj : j < h.length) (hij : i ≠ j) (hn : h.length ≤ 1000000) :
    Calls Tryz.prog 174 #[.pointer (some ⟨T, 0, none⟩), .int .i64 i, .int .i64 j] w fun e w' => e = .returned (.tuple #[]) ∧ TR base T M last (sw h i j) v w' ∧ Fr T M v w w' := by
  obtain ⟨g, cap, rfl, hg⟩ := r.shape (by omega)
  obtain ⟨c0, c1, c2⟩ := r.blk.cell
  have ai := TC_at hi
  have aj := TC_at hj
  have hl := TC_length h
  have i0 := (r.row.cellAt (i * 3) (by omega)).trans ai.1
  have i1 := (r.row.cellAt (i * 3 + 1) (by omega)).trans ai.2.1
  have i2 := (r.row.cellAt (i * 3 + 2) (by omega)).trans ai.2.2
  have j0 := (r.row.cellAt (j * 3) (by omega)).trans aj.1
  have j1 := (r.row.cellAt (j * 3 + 1) (by omega)).trans aj.2.1
  have j2 := (r.row.cellAt (j * 3 + 2) (by omega)).trans aj.2.2
  have f0 := r.row.frozenAt (i * 3)
  have f1 := r.row.frozenAt (i * 3 + 1)
  have f2 := r.row.frozenAt (i * 3 + 2)
  have f3 := r.row.frozenAt (j * 3)
  have f4 := r.row.frozenAt (j * 3 + 1)
  have f5 := r.row.frozenAt (j * 3 + 2)
  have hin : (i : Int) < (h.length : Int) := by omega
  have hjn : (j : Int) < (h.length : Int) := by omega
  have n00 : ¬ i * 3 = j * 3 := by omega
  have n01 : ¬ i * 3 = j * 3 + 1 := by omega
  have n02 : ¬ i * 3 = j * 3 + 2 := by omega
  have n10 : ¬ i * 3 + 1 = j * 3 := by omega
  have n11 : ¬ i * 3 + 1 = j * 3 + 1 := by omega
  have n12 : ¬ i * 3 + 1 = j * 3 + 2 := by omega
  have n20 : ¬ i * 3 + 2 = j * 3 := by omega
  have n21 : ¬ i * 3 + 2 = j * 3 + 1 := by omega
  have n22 : ¬ i * 3 + 2 = j * 3 + 2 := by omega
  have hTg : ¬ T = g := fun e => r.apart.2.1 (by rw [e]; rfl)
  generalize hx : at' h i = x at i0 i1 i2
  generalize hy : at' h j = y at j0 j1 j2
  have hx' := (show Hid _ from hx)
  have hy' := (show Hid _ from hy)
  clear hx hy ai aj hl
  obtain ⟨f, hm, hp⟩ := r.map
  have hap := r.apart
  have hidx := ok_id r hi
  have hidy := ok_id r hj
  rw [hx'.out] at hidx
  rw [hy'.out] at hidy
  have hi64 : I64 (i : Int) := by unfold I64; omega
  have hj64 : I64 (j : Int) := by unfold I64; omega
  have hpi := hp.1 i _ (at_get hi)
  have hpj := hp.1 j _ (at_get hj)
  have hpsw := hp.sw hi hj
  rw [hx'.out] at hpi hpsw
  rw [hy'.out] at hpj hpsw
  have hrow : (((((((w.setCell ⟨g, i * 3, none⟩ (.int .u64 y.1)).setCell ⟨g, i * 3 + 1, none⟩ (.int .i64 y.2.1)).setCell ⟨g, i * 3 + 2, none⟩ (.int .i64 y.2.2)).setCell ⟨g, j * 3, none⟩ (.int .u64 x.1)).setCell ⟨g, j * 3 + 1, none⟩ (.int .i64 x.2.1)).setCell ⟨g, j * 3 + 2, none⟩ (.int .i64 x.2.2)).drew).ownsRow base 254 3 (.slice (some ⟨g, 0, none⟩) h.length cap) h.length (TC (Hp.sw h i j)) := by
    have e := ((((((r.row.stored (i * 3) (.int .u64 y.1)).1.stored (i * 3 + 1) (.int .i64 y.2.1)).1.stored (i * 3 + 2) (.int .i64 y.2.2)).1.stored (j * 3) (.int .u64 x.1)).1.stored (j * 3 + 1) (.int .i64 x.2.1)).1.stored (j * 3 + 2) (.int .i64 x.2.2)).1
    rw [TC_set, TC_set] at e
    have es : (h.set i y).set j x = Hp.sw h i j := by
      unfold Hp.sw
      rw [hx'.out, hy'.out]
    rw [es] at e
    exact e.drew
  have hgr : w.grownBy (((((((w.setCell ⟨g, i * 3, none⟩ (.int .u64 y.1)).setCell ⟨g, i * 3 + 1, none⟩ (.int .i64 y.2.1)).setCell ⟨g, i * 3 + 2, none⟩ (.int .i64 y.2.2)).setCell ⟨g, j * 3, none⟩ (.int .u64 x.1)).setCell ⟨g, j * 3 + 1, none⟩ (.int .i64 x.2.1)).setCell ⟨g, j * 3 + 2, none⟩ (.int .i64 x.2.2)).drew) (some g) := by
    have e := grown_st (grown_st (grown_st (grown_st (grown_st (grown_st (grown_rfl w (some g)) (i * 3) (.int .u64 y.1)) (i * 3 + 1) (.int .i64 y.2.1)) (i * 3 + 2) (.int .i64 y.2.2)) (j * 3) (.int .u64 x.1)) (j * 3 + 1) (.int .i64 x.2.1)) (j * 3 + 2) (.int .i64 x.2.2)
    exact grown_dr e
  have hTn : some T ≠ (some g : Option Nat) := hap.2.1
  have hMn : some M ≠ (some g : Option Nat) := hap.2.2
  have hB1 := r.blk.kept hgr hTn
  have hm1 := hm.kept hgr hMn
  have hat := at_sw hi hj
  rw [hx'.out, hy'.out] at hat
  have hli : i < (Hp.sw h i j).length := by rw [sw_length]; exact hi
  have hlj : j < (Hp.sw h i j).length := by rw [sw_length]; exact hj
  have ti := TC_at hli
  have tj := TC_at hlj
  rw [hat, if_neg hij, if_pos rfl] at ti
  rw [hat, if_pos rfl] at tj
  have hbT := r.bT
  have hbM := r.bM
  have hok : ∀ z ∈ Hp.sw h i j, TOk z := fun z hz => r.ok z ((sw_perm hi hj).mem_iff.1 hz)
  have hmt : T ≠ M := hap.1
  generalize hH : h.length = n at hin hjn c0 hn hrow hB1 hm1
  have hH' := (show Hid _ from hH)
  clear hH r hm hp hap hx' hy' hat
  obtain ⟨x0, x1, x2⟩ := x
  obtain ⟨y0, y1, y2⟩ := y
  dsimp only at i0 i1 i2 j0 j1 j2 hrow hgr hB1 hm1 hidx hidy hpi hpj hpsw ti tj
  go_enter Tryz.func174, Tryz.ntmps174
  go_wp2_with fail
  go_region
  clear i0 i1 i2 j0 j1 j2 c0 c1 c2 f0 f1 f2 f3 f4 f5 n00 n01 n02 n10 n11 n12 n20 n21 n22
  generalize World.drew _ = W1 at hrow hgr hB1 hm1 ⊢
  have hl3 : n * 3 = h.length * 3 := by rw [hH'.out]
  have d1 := (hrow.cellAt (i * 3 + 1) (by omega)).trans ti.2.1
  obtain ⟨b0, b1, b2⟩ := hB1.cell
  obtain ⟨W2, hr2, hm2, hg2⟩ := (show MapI W1.drew M f n from hm1).put (by unfold maxLen; omega) hidy hi64
  go_wp2_with fail
  go_region
  have hg2' : W1.grownBy W2 (some M) := ⟨hg2.os, hg2.tape, hg2.output, hg2.size, hg2.block⟩
  rw [hpj] at hm2
  simp only [Option.isSome_some, if_true] at hm2
  have hB2 := hB1.kept hg2' (by simpa using hmt)
  have hrow2 := hrow.kept hg2' (by simpa [Value.ownBlock] using hMn.symm)
  have hF2 := (Fr.grown (T := T) (M := M) (v := .slice (some ⟨g, 0, none⟩) n cap) hgr (.inr (.inr (.inr rfl)))).trans (Fr.grown (T := T) (M := M) (v := .slice (some ⟨g, 0, none⟩) n cap) hg2' (.inr (.inr (.inl rfl)))) (.inl rfl)
  clear hrow hB1 hm1 hr2 hgr hg2 hg2' b0 b1 b2 d1 ti
  have d1 := (hrow2.cellAt (j * 3 + 1) (by omega)).trans tj.2.1
  obtain ⟨b0, b1, b2⟩ := hB2.cell
  obtain ⟨W3, hr3, hm3, hg3⟩ := (show MapI W2.drew M _ n from hm2).put (by unfold maxLen; omega) hidx hj64
  go_wp2_with fail
  go_region
  have hg3' : W2.grownBy W3 (some M) := ⟨hg3.os, hg3.tape, hg3.output, hg3.size, hg3.block⟩
  have hsome : (upd f y1 (some i) x1).isSome = true := by
    unfold upd
    split
    · rfl
    · rw [hpi]; rfl
  rw [hsome] at hm3
  simp only [if_true] at hm3
  have hB3 := hB2.kept hg3' (by simpa using hmt)
  have hrow3 := hrow2.kept hg3' (by simpa [Value.ownBlock] using hMn.symm)
  have hF3 := hF2.trans (Fr.grown (T := T) (M := M) (v := .slice (some ⟨g, 0, none⟩) n cap) hg3' (.inr (.inr (.inl rfl)))) (.inl rfl)
  clear hrow2 hB2 hm2 hr3 hF2 hg3 hg3' b0 b1 b2 d1 tj
  go_wp2
  go_returns
  have hls : (Hp.sw h i j).length = n := by rw [sw_length]; exact hH'.out
  rw [← hls] at hrow3 hm3 hB3 hF3 ⊢
  exact ⟨rfl, ⟨hB3, hrow3, ⟨_, hm3, hpsw⟩, hok, hbT, hbM⟩, hF3⟩
set_option maxRecDepth 100000 in
set_option maxHeartbeats 4000000 in
theorem swap_eq (base T M : Nat) (last : Int) (h : List Tm) (v : Value) (w : World) (r : TR base T M last h v w) (i : Nat) (hi : i < h.length) (hn : h.length ≤ 1000000) :
    Calls Tryz.prog 174 #[.pointer (some ⟨T, 0, none⟩), .int .i64 i, .int .i64 i] w fun e w' => e = .returned (.tuple #[]) ∧ TR base T M last (sw h i i) v w' ∧ Fr T M v w w' := by
  obtain ⟨g, cap, rfl, hg⟩ := r.shape (by omega)
  obtain ⟨c0, c1, c2⟩ := r.blk.cell
  have ai := TC_at hi
  have hl := TC_length h
  have i0 := (r.row.cellAt (i * 3) (by omega)).trans ai.1
  have i1 := (r.row.cellAt (i * 3 + 1) (by omega)).trans ai.2.1
  have i2 := (r.row.cellAt (i * 3 + 2) (by omega)).trans ai.2.2
  have f0 := r.row.frozenAt (i * 3)
  have f1 := r.row.frozenAt (i * 3 + 1)
  have f2 := r.row.frozenAt (i * 3 + 2)
  have hin : (i : Int) < (h.length : Int) := by omega
  have hTg : ¬ T = g := fun e => r.apart.2.1 (by rw [e]; rfl)
  generalize hx : at' h i = x at i0 i1 i2
  have hx' := (show Hid _ from hx)
  clear hx ai hl
  obtain ⟨f, hm, hp⟩ := r.map
  have hap := r.apart
  have hidx := ok_id r hi
  rw [hx'.out] at hidx
  have hi64 : I64 (i : Int) := by unfold I64; omega
  have hpi := hp.1 i _ (at_get hi)
  have hpsw := hp.sw hi hi
  rw [hx'.out] at hpi hpsw
  have hrow : (((((((w.setCell ⟨g, i * 3, none⟩ (.int .u64 x.1)).setCell ⟨g, i * 3 + 1, none⟩ (.int .i64 x.2.1)).setCell ⟨g, i * 3 + 2, none⟩ (.int .i64 x.2.2)).setCell ⟨g, i * 3, none⟩ (.int .u64 x.1)).setCell ⟨g, i * 3 + 1, none⟩ (.int .i64 x.2.1)).setCell ⟨g, i * 3 + 2, none⟩ (.int .i64 x.2.2)).drew).ownsRow base 254 3 (.slice (some ⟨g, 0, none⟩) h.length cap) h.length (TC (Hp.sw h i i)) := by
    have e := ((((((r.row.stored (i * 3) (.int .u64 x.1)).1.stored (i * 3 + 1) (.int .i64 x.2.1)).1.stored (i * 3 + 2) (.int .i64 x.2.2)).1.stored (i * 3) (.int .u64 x.1)).1.stored (i * 3 + 1) (.int .i64 x.2.1)).1.stored (i * 3 + 2) (.int .i64 x.2.2)).1
    rw [TC_set, TC_set] at e
    have es : (h.set i x).set i x = Hp.sw h i i := by
      unfold Hp.sw
      rw [hx'.out]
    rw [es] at e
    exact e.drew
  have hgr : w.grownBy (((((((w.setCell ⟨g, i * 3, none⟩ (.int .u64 x.1)).setCell ⟨g, i * 3 + 1, none⟩ (.int .i64 x.2.1)).setCell ⟨g, i * 3 + 2, none⟩ (.int .i64 x.2.2)).setCell ⟨g, i * 3, none⟩ (.int .u64 x.1)).setCell ⟨g, i * 3 + 1, none⟩ (.int .i64 x.2.1)).setCell ⟨g, i * 3 + 2, none⟩ (.int .i64 x.2.2)).drew) (some g) := by
    have e := grown_st (grown_st (grown_st (grown_st (grown_st (grown_st (grown_rfl w (some g)) (i * 3) (.int .u64 x.1)) (i * 3 + 1) (.int .i64 x.2.1)) (i * 3 + 2) (.int .i64 x.2.2)) (i * 3) (.int .u64 x.1)) (i * 3 + 1) (.int .i64 x.2.1)) (i * 3 + 2) (.int .i64 x.2.2)
    exact grown_dr e
  have hTn : some T ≠ (some g : Option Nat) := hap.2.1
  have hMn : some M ≠ (some g : Option Nat) := hap.2.2
  have hB1 := r.blk.kept hgr hTn
  have hm1 := hm.kept hgr hMn
  have hat := at_sw hi hi
  rw [hx'.out] at hat
  have hli : i < (Hp.sw h i i).length := by rw [sw_length]; exact hi
  have ti := TC_at hli
  rw [hat, if_pos rfl] at ti
  have hbT := r.bT
  have hbM := r.bM
  have hok : ∀ z ∈ Hp.sw h i i, TOk z := fun z hz => r.ok z ((sw_perm hi hi).mem_iff.1 hz)
  have hmt : T ≠ M := hap.1
  generalize hH : h.length = n at hin c0 hn hrow hB1 hm1
  have hH' := (show Hid _ from hH)
  clear hH r hm hp hap hx' hat
  obtain ⟨x0, x1, x2⟩ := x
  dsimp only at i0 i1 i2 hrow hgr hB1 hm1 hidx hpi hpsw ti
  go_enter Tryz.func174, Tryz.ntmps174
  go_wp2_with fail
  go_region
  clear i0 i1 i2 c0 c1 c2 f0 f1 f2
  generalize World.drew _ = W1 at hrow hgr hB1 hm1 ⊢
  have hl3 : n * 3 = h.length * 3 := by rw [hH'.out]
  have d1 := (hrow.cellAt (i * 3 + 1) (by omega)).trans ti.2.1
  obtain ⟨b0, b1, b2⟩ := hB1.cell
  obtain ⟨W2, hr2, hm2, hg2⟩ := (show MapI W1.drew M f n from hm1).put (by unfold maxLen; omega) hidx hi64
  go_wp2_with fail
  go_region
  have hg2' : W1.grownBy W2 (some M) := ⟨hg2.os, hg2.tape, hg2.output, hg2.size, hg2.block⟩
  rw [hpi] at hm2
  simp only [Option.isSome_some, if_true] at hm2
  have hB2 := hB1.kept hg2' (by simpa using hmt)
  have hrow2 := hrow.kept hg2' (by simpa [Value.ownBlock] using hMn.symm)
  have hF2 := (Fr.grown (T := T) (M := M) (v := .slice (some ⟨g, 0, none⟩) n cap) hgr (.inr (.inr (.inr rfl)))).trans (Fr.grown (T := T) (M := M) (v := .slice (some ⟨g, 0, none⟩) n cap) hg2' (.inr (.inr (.inl rfl)))) (.inl rfl)
  clear hrow hB1 hm1 hr2 hgr hg2 hg2' b0 b1 b2 d1
  have d1 := (hrow2.cellAt (i * 3 + 1) (by omega)).trans ti.2.1
  obtain ⟨b0, b1, b2⟩ := hB2.cell
  obtain ⟨W3, hr3, hm3, hg3⟩ := (show MapI W2.drew M _ n from hm2).put (by unfold maxLen; omega) hidx hi64
  go_wp2_with fail
  go_region
  have hg3' : W2.grownBy W3 (some M) := ⟨hg3.os, hg3.tape, hg3.output, hg3.size, hg3.block⟩
  have hsome : (upd f x1 (some i) x1).isSome = true := by
    simp [upd]
  rw [hsome] at hm3
  simp only [if_true] at hm3
  have hB3 := hB2.kept hg3' (by simpa using hmt)
  have hrow3 := hrow2.kept hg3' (by simpa [Value.ownBlock] using hMn.symm)
  have hF3 := hF2.trans (Fr.grown (T := T) (M := M) (v := .slice (some ⟨g, 0, none⟩) n cap) hg3' (.inr (.inr (.inl rfl)))) (.inl rfl)
  clear hrow2 hB2 hm2 hr3 hF2 hg3 hg3' b0 b1 b2 d1 ti
  go_wp2
  go_returns
  have hls : (Hp.sw h i i).length = n := by rw [sw_length]; exact hH'.out
  rw [← hls] at hrow3 hm3 hB3 hF3 ⊢
  exact ⟨rfl, ⟨hB3, hrow3, ⟨_, hm3, hpsw⟩, hok, hbT, hbM⟩, hF3⟩

theorem swap_any (base T M : Nat) (last : Int) (h : List Tm) (v : Value) (w : World) (r : TR base T M last h v w) (i j : Nat) (hi : i < h.length) (hj : j < h.length) (hn : h.length ≤ 1000000) :
    Calls Tryz.prog 174 #[.pointer (some ⟨T, 0, none⟩), .int .i64 i, .int .i64 j] w fun e w' => e = .returned (.tuple #[]) ∧ TR base T M last (sw h i j) v w' ∧ Fr T M v w w' := by
  by_cases hij : i = j
  · subst hij
    exact swap_eq base T M last h v w r i hi hn
  · exact swap_ne base T M last h v w r i j hi hj hij hn
end Go.Proofs.YtakaadcpaeiccabGreat

namespace Go.Proofs.YtakaadcpaeiccabGreat
open Go.RowKit Go.Maps
open Hp

@[reducible] def tmV (x : Tm) : Value := .agg #[.int .u64 x.1, .int .i64 x.2.1, .int .i64 x.2.2]
@[reducible] def tmBox (x : Tm) : Obj := .cells #[.int .u64 x.1, .int .i64 x.2.1, .int .i64 x.2.2] 254

set_option maxHeartbeats 1000000 in
theorem ahead_any (x y : Tm) (w : World) :
    Calls Tryz.prog 194 #[tmV x, tmV y] w fun e w' => e = .returned (.bool (ahd x y)) ∧ Below w.heap.size w w' := by
  obtain ⟨x0, x1, x2⟩ := x
  obtain ⟨y0, y1, y2⟩ := y
  have hB : Below w.heap.size w ((w.alloc (tmBox (x0, x1, x2))).alloc (tmBox (y0, y1, y2))) := ((Below.refl _ _).alloc (Nat.le_refl _) _).alloc (by simp) _
  dsimp only [tmBox] at hB
  by_cases h : x0 = y0
  · subst h
    have e : (x0 != x0) = false := by simp
    have ea : Hid (ahd (x0, x1, x2) (x0, y1, y2) = decide (x1 < y1)) := by
      show _ = _
      simp [ahd]
    go_enter Tryz.func194, Tryz.ntmps194
    go_wp2
    all_goals (go_ret; exact ⟨ret_bool ea.out.symm, hB⟩)
  · have e : (x0 != y0) = true := by simpa using h
    have ea : Hid (ahd (x0, x1, x2) (y0, y1, y2) = decide (x0 < y0)) := by
      show _ = _
      simp [ahd, h]
    go_enter Tryz.func194, Tryz.ntmps194
    go_wp2
    all_goals (go_ret; exact ⟨ret_bool ea.out.symm, hB⟩)

theorem TR.later {base T M : Nat} {last : Int} {h : List Tm} {v : Value} {W W' : World} (r : TR base T M last h v W) (hb : Below W.heap.size W W') : TR base T M last h v W' := by
  have hg : W.grownBy W' none := ⟨hb.os, hb.tape, hb.output, hb.size, fun k hk _ => hb.block k hk⟩
  obtain ⟨f, hm, hp⟩ := r.map
  exact ⟨r.blk.kept hg (by simp), step_append_kept r.row hb, ⟨f, hm.kept hg (by simp), hp⟩, r.ok, r.bT, r.bM⟩
theorem TR.drew {base T M : Nat} {last : Int} {h : List Tm} {v : Value} {W : World} (r : TR base T M last h v W) : TR base T M last h v W.drew := by
  obtain ⟨f, hm, hp⟩ := r.map
  exact ⟨r.blk, r.row.drew, ⟨f, hm, hp⟩, r.ok, r.bT, r.bM⟩
theorem Fr.later {T M : Nat} {v : Value} {w W W' : World} (a : Fr T M v w W) (hb : Below W.heap.size W W') : Fr T M v w W' :=
  a.trans (Fr.grown (v := v) (r := none) ⟨hb.os, hb.tape, hb.output, hb.size, fun k hk _ => hb.block k hk⟩ (.inl rfl)) (.inl rfl)
theorem Fr.drew {T M : Nat} {v : Value} {w W : World} (a : Fr T M v w W) : Fr T M v w W.drew := ⟨a.os, a.tape, a.output, a.size, a.block⟩

/-- What a statement reads of two timers and of the struct. -/
@[reducible] def Two (T g n cap i j : Nat) (x y : Tm) (W : World) : Prop :=
  W.cell? ⟨T, 0, none⟩ = some (.slice (some ⟨g, 0, none⟩) n cap) ∧
  W.cell? ⟨g, i * 3, none⟩ = some (.int .u64 x.1) ∧ W.cell? ⟨g, i * 3 + 1, none⟩ = some (.int .i64 x.2.1) ∧ W.cell? ⟨g, i * 3 + 2, none⟩ = some (.int .i64 x.2.2) ∧
  W.cell? ⟨g, j * 3, none⟩ = some (.int .u64 y.1) ∧ W.cell? ⟨g, j * 3 + 1, none⟩ = some (.int .i64 y.2.1) ∧ W.cell? ⟨g, j * 3 + 2, none⟩ = some (.int .i64 y.2.2)
theorem Two.of {base T M : Nat} {last : Int} {h : List Tm} {g cap : Nat} {W : World} (r : TR base T M last h (.slice (some ⟨g, 0, none⟩) h.length cap) W) {i j : Nat} (hi : i < h.length) (hj : j < h.length) : Two T g h.length cap i j (at' h i) (at' h j) W := by
  have ai := TC_at hi
  have aj := TC_at hj
  have hl := TC_length h
  exact ⟨r.blk.cell.1, (r.row.cellAt (i * 3) (by omega)).trans ai.1, (r.row.cellAt (i * 3 + 1) (by omega)).trans ai.2.1, (r.row.cellAt (i * 3 + 2) (by omega)).trans ai.2.2,
    (r.row.cellAt (j * 3) (by omega)).trans aj.1, (r.row.cellAt (j * 3 + 1) (by omega)).trans aj.2.1, (r.row.cellAt (j * 3 + 2) (by omega)).trans aj.2.2⟩

theorem Two.later {T g n cap i j : Nat} {x y : Tm} {W W' : World} (h : Two T g n cap i j x y W) (hb : Below W.heap.size W W') : Two T g n cap i j x y W' := by
  have k : ∀ {a : Addr} {u : Value}, W.cell? a = some u → W'.cell? a = some u := fun {a u} ha => (hb.cell (World.block_lt_of_cell? W a ha)).trans ha
  exact ⟨k h.1, k h.2.1, k h.2.2.1, k h.2.2.2.1, k h.2.2.2.2.1, k h.2.2.2.2.2.1, k h.2.2.2.2.2.2⟩

set_option maxRecDepth 100000 in
set_option maxHeartbeats 4000000 in
theorem rise_any (base T M : Nat) (last : Int) (h : List Tm) (v : Value) (w : World) (r : TR base T M last h v w) (i : Nat) (hi : i < h.length) (hn : h.length ≤ 1000000) (hb : Both h i) :
    Calls Tryz.prog 175 #[.pointer (some ⟨T, 0, none⟩), .int .i64 i] w fun e w' => e = .returned (.tuple #[]) ∧ ∃ h', TR base T M last h' v w' ∧ Fr T M v w w' ∧ h'.Perm h ∧ Down h' i := by
  obtain ⟨g, cap, rfl, hg⟩ := r.shape (by omega)
  have hF := Fr.refl T M (.slice (some ⟨g, 0, none⟩) h.length cap) w
  generalize hH : h.length = n at hi hn r hF
  have hH' := (show Hid _ from hH)
  clear hH
  go_enter Tryz.func175, Tryz.ntmps175
  go_wp2_with fail
  go_loopw [1] (fun iv wr => ∃ (k : Nat) (h1 : List Tm), iv = .int .i64 k ∧ k < n ∧ h1.length = n ∧ TR base T M last h1 (.slice (some ⟨g, 0, none⟩) n cap) wr ∧ Fr T M (.slice (some ⟨g, 0, none⟩) n cap) w wr ∧ h1.Perm h ∧ ((k = i ∧ Both h1 i) ∨ Up h1 k)) (fun iv _ => (intOf iv).toNat)
  case atStart => exact ⟨i, h, rfl, hi, hH'.out, r, hF, List.Perm.refl _, .inl ⟨rfl, hb⟩⟩
  case round =>
    clear r hF hb
    obtain ⟨k, h1, rfl, hk, hl, r1, hF1, hp1, hO⟩ := hrel
    by_cases h0 : 0 < k
    · have hpk := par_lt h0
      have hq : ((k : Int) - 1) / 2 = ((par k : Nat) : Int) := by unfold par; omega
      have hS : Two T g n cap k (par k) (at' h1 k) (at' h1 (par k)) wr := by
        have := Two.of (g := g) (cap := cap) (by rw [hl]; exact r1) (i := k) (j := par k) (by omega) (by omega)
        rw [hl] at this
        exact this
      have hBo : Both h1 k := by
        rcases hO with ⟨rfl, hB⟩ | hU
        · exact hB
        · exact hU.both
      have hl' := (show Hid _ from hl)
      have hpn : ((par k : Nat) : Int) < (n : Int) := by omega
      have hkn : (k : Int) < (n : Int) := by omega
      clear hl
      generalize hP : par k = P at hq hS hpk hpn
      have hP' := (show Hid _ from hP)
      clear hP
      go_wp2_with fail
      go_region_held3 (Two T g n cap k P (at' h1 k) (at' h1 P)) (first | exact hS | assumption | exact Two.later (by assumption) hb2) ((go_at_call 194; refine (ahead_any (at' h1 k) (at' h1 P) _).mono ?_; rintro e w2 ⟨rfl, hb2⟩))
      have r2 := r1.drew.later hb2
      have hF2 := hF1.drew.later hb2
      clear r1 hF1 hS hb2
      cases hA : ahd (at' h1 k) (at' h1 P)
      · have hDn : Down h1 i := by
          have hOk : Ok h1 k := by
            unfold Ok
            rw [hP'.out]
            exact hA
          rcases hO with ⟨rfl, hB⟩ | hU
          · exact hB.down (.inr hOk)
          · exact (hU.done hOk).down i
        clear hA hO hBo
        go_wp2
        go_returns
        exact ⟨rfl, h1, r2, hF2, hp1, hDn⟩
      · have hUp : Up (sw h1 k P) P := by
          have := up_step hBo h0 (by rw [hl'.out]; exact hk) (by rw [hP'.out]; exact hA)
          rw [hP'.out] at this
          exact this
        clear hA hO hBo
        go_wp2_with fail
        refine (swap_any base T M last h1 _ _ r2 k P (by rw [hl'.out]; exact hk) (by rw [hl'.out]; omega) (by rw [hl'.out]; exact hn)).mono ?_
        rintro e w3 ⟨rfl, r3, hF3⟩
        have hp3 : (sw h1 k P).Perm h := (sw_perm (by rw [hl'.out]; exact hk) (by rw [hl'.out]; omega)).trans hp1
        have hF4 := hF2.trans hF3 (.inl rfl)
        have hl3 : (sw h1 k P).length = n := by rw [sw_length]; exact hl'.out
        clear r2 hF2 hF3
        generalize sw h1 k P = h3 at r3 hp3 hl3 hUp
        have hl3' := (show Hid _ from hl3)
        clear hl3
        go_wp2
        go_roundw
        case rel => exact ⟨P, h3, rfl, by omega, hl3'.out, r3, hF4, hp3, .inr hUp⟩
        case measure => simp [intOf]; omega
    · obtain rfl : k = 0 := by omega
      have hDn : Down h1 i := by
        rcases hO with ⟨rfl, hB⟩ | hU
        · exact hB.down (.inl rfl)
        · exact hU.top.down i
      clear hO h0
      go_wp2
      go_returns
      exact ⟨rfl, h1, r1, hF1, hp1, hDn⟩
end Go.Proofs.YtakaadcpaeiccabGreat

namespace Go.Proofs.YtakaadcpaeiccabGreat
open Go.RowKit Go.Maps
open Hp

/-- The first one of a place and of those below it that have been looked at. -/
structure First (h : List Tm) (k b F : Nat) : Prop where
  lt : F < h.length
  fst : F = k ∨ (0 < F ∧ par F = k ∧ ahd (at' h F) (at' h k) = true)
  le : Le (at' h F) (at' h k)
  all : ∀ d, 0 < d → d < h.length → par d = k → d < b → Le (at' h F) (at' h d)
theorem First.start {h : List Tm} {k : Nat} (hk : k < h.length) : First h k (2 * k + 1) k := by
  refine ⟨hk, .inl rfl, Le.refl _, fun d h1 h2 h3 h4 => ?_⟩
  unfold par at h3
  omega
theorem First.stay {h : List Tm} {k b F : Nat} (f : First h k b F) (ha : ahd (at' h b) (at' h F) = false) : First h k (b + 1) F := by
  refine ⟨f.lt, f.fst, f.le, fun d h1 h2 h3 h4 => ?_⟩
  by_cases e : d = b
  · subst e; exact ha
  · exact f.all d h1 h2 h3 (by omega)
theorem First.next {h : List Tm} {k b F : Nat} (f : First h k b F) (hb : b < h.length) (hp : par b = k) (h0 : 0 < b) (ha : ahd (at' h b) (at' h F) = true) : First h k (b + 1) b := by
  have hle := Le.of ha
  have hlk := hle.trans f.le
  refine ⟨hb, .inr ⟨h0, hp, ?_⟩, hlk, fun d h1 h2 h3 h4 => ?_⟩
  · have := f.le
    rw [Le.iff] at this
    rw [ahd_iff] at ha ⊢
    omega
  · by_cases e : d = b
    · subst e; exact Le.refl _
    · exact hle.trans (f.all d h1 h2 h3 (by omega))
theorem First.whole {h : List Tm} {k b F : Nat} (f : First h k b F) (hb : 2 * k + 2 < b ∨ h.length ≤ b) : ∀ d, 0 < d → d < h.length → par d = k → Le (at' h F) (at' h d) := fun d h1 h2 h3 => by
  refine f.all d h1 h2 h3 ?_
  unfold par at h3
  omega

set_option maxRecDepth 100000 in
set_option maxHeartbeats 4000000 in
theorem sink_any (base T M : Nat) (last : Int) (h : List Tm) (v : Value) (w : World) (r : TR base T M last h v w) (i : Nat) (hi : i < h.length) (hn : h.length ≤ 1000000) (hb : Down h i) :
    Calls Tryz.prog 176 #[.pointer (some ⟨T, 0, none⟩), .int .i64 i] w fun e w' => e = .returned (.tuple #[]) ∧ ∃ h', TR base T M last h' v w' ∧ Fr T M v w w' ∧ h'.Perm h ∧ Heap h' := by
  obtain ⟨g, cap, rfl, hg⟩ := r.shape (by omega)
  have hF := Fr.refl T M (.slice (some ⟨g, 0, none⟩) h.length cap) w
  generalize hH : h.length = n at hi hn r hF
  have hH' := (show Hid _ from hH)
  clear hH
  go_enter Tryz.func176, Tryz.ntmps176
  go_wp2_with fail
  go_loopw [1] (fun iv wr => ∃ (k : Nat) (h1 : List Tm), iv = .int .i64 k ∧ k < n ∧ h1.length = n ∧ TR base T M last h1 (.slice (some ⟨g, 0, none⟩) n cap) wr ∧ Fr T M (.slice (some ⟨g, 0, none⟩) n cap) w wr ∧ h1.Perm h ∧ Down h1 k) (fun iv _ => n - (intOf iv).toNat)
  case atStart => exact ⟨i, h, rfl, hi, hH'.out, r, hF, List.Perm.refl _, hb⟩
  case round =>
    clear r hF hb
    obtain ⟨k, h1, rfl, hk, hl, r1, hF1, hp1, hD⟩ := hrel
    have hf0 : First h1 k (2 * k + 1) k := First.start (by omega)
    have hl' := (show Hid _ from hl)
    have hi64 : (2 : Int) * (k : Int) + 2 ≤ 9223372036854775807 := by omega
    clear hl
    go_wp2_with fail
    go_loopw [4, 5] (fun fv bv wx => ∃ (F b : Nat), fv = .int .i64 F ∧ bv = .int .i64 b ∧ 2 * k + 1 ≤ b ∧ b ≤ 2 * k + 3 ∧ First h1 k b F ∧ TR base T M last h1 (.slice (some ⟨g, 0, none⟩) n cap) wx ∧ Fr T M (.slice (some ⟨g, 0, none⟩) n cap) w wx) (fun _ bv _ => 2 * k + 3 - (intOf bv).toNat)
    case atStart => exact ⟨k, 2 * k + 1, rfl, by go_num, Nat.le_refl _, by omega, hf0, r1, hF1⟩
    case round =>
      clear hf0 r1 hF1
      obtain ⟨F, b, rfl, rfl, hb1, hb2, hf, rx, hFx⟩ := hrel
      have hFn : F < n := by have := hf.lt; rw [hl'.out] at this; exact this
      have cT := rx.blk.cell.1
      by_cases hlt : b ≤ 2 * k + 2 ∧ b < n
      · obtain ⟨hle, hbn⟩ := hlt
        have hd1 : decide ((b : Int) ≤ 2 * (k : Int) + 2) = true := decide_eq_true (by omega)
        have hd2 : decide ((b : Int) < (n : Int)) = true := decide_eq_true (by omega)
        have hbi : (b : Int) < (n : Int) := by omega
        have hFi : (F : Int) < (n : Int) := by omega
        have hS : Two T g n cap b F (at' h1 b) (at' h1 F) wr := by
          have := Two.of (g := g) (cap := cap) (by rw [hl'.out]; exact rx) (i := b) (j := F) (by rw [hl'.out]; exact hbn) (by rw [hl'.out]; exact hFn)
          rw [hl'.out] at this
          exact this
        go_wp2_with fail
        go_region_held3 (Two T g n cap b F (at' h1 b) (at' h1 F)) (first | exact hS | assumption | exact Two.later (by assumption) hbx) ((go_at_call 194; refine (ahead_any (at' h1 b) (at' h1 F) _).mono ?_; rintro e w2 ⟨rfl, hbx⟩))
        have r2 := rx.drew.later hbx
        have hF2 := hFx.drew.later hbx
        clear rx hFx hS hbx cT
        cases hA : ahd (at' h1 b) (at' h1 F)
        · have hf1 := hf.stay hA
          clear hA hf
          go_wp2
          go_roundw
          case rel => exact ⟨F, b + 1, rfl, by go_num, by omega, by omega, hf1, r2, hF2⟩
          case measure => simp [intOf]; omega
        · have hf1 := hf.next (by rw [hl'.out]; exact hbn) (by unfold par; omega) (by omega) hA
          clear hA hf
          go_wp2
          go_roundw
          case rel => exact ⟨b, b + 1, rfl, by go_num, by omega, by omega, hf1, r2, hF2⟩
          case measure => simp [intOf]; omega
      · have hw := hf.whole (by rw [hl'.out]; omega)
        have hff := hf.fst
        have hd : (decide ((b : Int) ≤ 2 * (k : Int) + 2) = false) ∨ (decide ((b : Int) ≤ 2 * (k : Int) + 2) = true ∧ decide (b < n) = false) := by
          by_cases h2 : b ≤ 2 * k + 2
          · exact .inr ⟨decide_eq_true (by omega), decide_eq_false (by omega)⟩
          · exact .inl (decide_eq_false (by omega))
        by_cases hFk : F = k
        · subst hFk
          have hHp : Heap h1 := hD.done hw
          clear hw hff hf hD hlt
          rcases hd with hd | ⟨hd, hd'⟩
          all_goals
            clear hb1 hb2
            go_upto_region 6 with (fail)
            clear hd
            go_wp2
            go_returns
            exact ⟨rfl, h1, rx, hFx, hp1, hHp⟩
        · obtain ⟨hF0, hpF, hA⟩ := hff.resolve_left hFk
          have hDn := down_step hD hF0 hf.lt hpF hA hw
          have hkF := par_lt hF0
          have hFk' : ((F : Int) == (k : Int)) = false := beq_eq_false_iff_ne.2 (by omega)
          have hp3 : (sw h1 k F).Perm h := (sw_perm (by rw [hl'.out]; exact hk) (by rw [hl'.out]; exact hFn)).trans hp1
          have hl3 : Hid ((sw h1 k F).length = n) := by
            show _ = _
            rw [sw_length]; exact hl'.out
          clear hw hff hf hD hlt hA
          rcases hd with hd | ⟨hd, hd'⟩
          all_goals
            clear hb1 hb2
            go_upto_region 6 with (fail)
            clear hd
            go_wp2_with fail
            refine (swap_any base T M last h1 _ _ rx k F (by rw [hl'.out]; exact hk) (by rw [hl'.out]; exact hFn) (by rw [hl'.out]; exact hn)).mono ?_
            rintro e w3 ⟨rfl, r3, hF3⟩
            have hF4 := hFx.trans hF3 (.inl rfl)
            clear hFx hF3
            go_wp2
            go_roundw
            case rel => exact ⟨F, sw h1 k F, rfl, hFn, hl3.out, r3, hF4, hp3, hDn⟩
            case measure => simp [intOf]; omega
end Go.Proofs.YtakaadcpaeiccabGreat
