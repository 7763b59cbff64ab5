import Derived.Test.YtjkjepoeiabpiaaQ3
import Derived.BigRegion
namespace Go.Proofs.Ytjkjepoeiabpiaa
open Go.RowKit Go.Maps
open Hp

theorem TC_set : ∀ (h : List Tm) (i : Nat) (x : Tm), (((TC h).set (i * 3) (.int .u64 x.1)).set (i * 3 + 1) (.int .i64 x.2.1)).set (i * 3 + 2) (.int .i64 x.2.2) = TC (h.set i x)
  | [], i, x => by simp [TC]
  | a :: h, 0, x => by simp [TC, tmC]
  | a :: h, i + 1, x => by
    have ih := TC_set h i x
    simp only [TC, List.flatMap_cons, List.set_cons_succ] at ih ⊢
    rw [← ih]
    simp only [tmC, List.cons_append, List.nil_append, show (i + 1) * 3 = i * 3 + 1 + 1 + 1 by omega, List.set_cons_succ]
theorem TBk.kept {T M : Nat} {last : Int} {v : Value} {W W' : World} {r : Option Nat} (h : TBk T M last v W) (hg : W.grownBy W' r) (hne : some T ≠ r) : TBk T M last v W' := (hg.block T h.lt hne).trans h
theorem grown_st {A B : World} {g : Nat} (h : A.grownBy B (some g)) (j : Nat) (v : Value) : A.grownBy (B.setCell ⟨g, j, none⟩ v) (some g) :=
  ⟨h.os, h.tape, h.output, by simpa using h.size, fun i hi hne => (Below.heap_setCell B ⟨g, j, none⟩ v i (fun e => hne (by rw [e]))).trans (h.block i hi hne)⟩
theorem grown_dr {A B : World} {r : Option Nat} (h : A.grownBy B r) : A.grownBy B.drew r := ⟨h.os, h.tape, h.output, h.size, h.block⟩
theorem grown_rfl (A : World) (r : Option Nat) : A.grownBy A r := ⟨rfl, rfl, rfl, Nat.le_refl _, fun _ _ _ => rfl⟩
theorem ok_id {base T M : Nat} {last : Int} {h : List Tm} {v : Value} {W : World} (r : TR base T M last h v W) {i : Nat} (hi : i < h.length) : I64 (at' h i).2.1 :=
  (r.ok _ (List.mem_of_getElem? (at_get hi))).2.1

set_option maxRecDepth 100000 in
set_option maxHeartbeats 4000000 in
theorem swap_ne (base T M : Nat) (last : Int) (h : List Tm) (v : Value) (w : World) (r : TR base T M last h v w) (i j : Nat) (hi : i < h.length) (hj : j < h.length) (hij : i ≠ j) (hn : h.length ≤ 1000000) :
    Calls Try.prog 68 #[.pointer (some ⟨T, 0, none⟩), .int .i64 i, .int .i64 j] w fun e w' => e = .returned (.tuple #[]) ∧ TR base T M last (sw h i j) v w' ∧ Fr T M v w w' := by
  obtain ⟨g, cap, rfl, hg⟩ := r.shape (by omega)
  obtain ⟨c0, c1, c2⟩ := r.blk.cell
  have ai := TC_at hi
  have aj := TC_at hj
  have hl := TC_length h
  have i0 := (r.row.cellAt (i * 3) (by omega)).trans ai.1
  have i1 := (r.row.cellAt (i * 3 + 1) (by omega)).trans ai.2.1
  have i2 := (r.row.cellAt (i * 3 + 2) (by omega)).trans ai.2.2
  have j0 := (r.row.cellAt (j * 3) (by omega)).trans aj.1
  have j1 := (r.row.cellAt (j * 3 + 1) (by omega)).trans aj.2.1
  have j2 := (r.row.cellAt (j * 3 + 2) (by omega)).trans aj.2.2
  have f0 := r.row.frozenAt (i * 3)
  have f1 := r.row.frozenAt (i * 3 + 1)
  have f2 := r.row.frozenAt (i * 3 + 2)
  have f3 := r.row.frozenAt (j * 3)
  have f4 := r.row.frozenAt (j * 3 + 1)
  have f5 := r.row.frozenAt (j * 3 + 2)
  have hin : (i : Int) < (h.length : Int) := by omega
  have hjn : (j : Int) < (h.length : Int) := by omega
  have n00 : ¬ i * 3 = j * 3 := by omega
  have n01 : ¬ i * 3 = j * 3 + 1 := by omega
  have n02 : ¬ i * 3 = j * 3 + 2 := by omega
  have n10 : ¬ i * 3 + 1 = j * 3 := by omega
  have n11 : ¬ i * 3 + 1 = j * 3 + 1 := by omega
  have n12 : ¬ i * 3 + 1 = j * 3 + 2 := by omega
  have n20 : ¬ i * 3 + 2 = j * 3 := by omega
  have n21 : ¬ i * 3 + 2 = j * 3 + 1 := by omega
  have n22 : ¬ i * 3 + 2 = j * 3 + 2 := by omega
  have hTg : ¬ T = g := fun e => r.apart.2.1 (by rw [e]; rfl)
  generalize hx : at' h i = x at i0 i1 i2
  generalize hy : at' h j = y at j0 j1 j2
  have hx' := (show Hid _ from hx)
  have hy' := (show Hid _ from hy)
  clear hx hy ai aj hl
  obtain ⟨f, hm, hp⟩ := r.map
  have hap := r.apart
  have hidx := ok_id r hi
  have hidy := ok_id r hj
  rw [hx'.out] at hidx
  rw [hy'.out] at hidy
  have hi64 : I64 (i : Int) := by unfold I64; omega
  have hj64 : I64 (j : Int) := by unfold I64; omega
  have hpi := hp.1 i _ (at_get hi)
  have hpj := hp.1 j _ (at_get hj)
  have hpsw := hp.sw hi hj
  rw [hx'.out] at hpi hpsw
  rw [hy'.out] at hpj hpsw
  have hrow : (((((((w.setCell ⟨g, i * 3, none⟩ (.int .u64 y.1)).setCell ⟨g, i * 3 + 1, none⟩ (.int .i64 y.2.1)).setCell ⟨g, i * 3 + 2, none⟩ (.int .i64 y.2.2)).setCell ⟨g, j * 3, none⟩ (.int .u64 x.1)).setCell ⟨g, j * 3 + 1, none⟩ (.int .i64 x.2.1)).setCell ⟨g, j * 3 + 2, none⟩ (.int .i64 x.2.2)).drew).ownsRow base 107 3 (.slice (some ⟨g, 0, none⟩) h.length cap) h.length (TC (Hp.sw h i j)) := by
    have e := ((((((r.row.stored (i * 3) (.int .u64 y.1)).1.stored (i * 3 + 1) (.int .i64 y.2.1)).1.stored (i * 3 + 2) (.int .i64 y.2.2)).1.stored (j * 3) (.int .u64 x.1)).1.stored (j * 3 + 1) (.int .i64 x.2.1)).1.stored (j * 3 + 2) (.int .i64 x.2.2)).1
    rw [TC_set, TC_set] at e
    have es : (h.set i y).set j x = Hp.sw h i j := by
      unfold Hp.sw
      rw [hx'.out, hy'.out]
    rw [es] at e
    exact e.drew
  have hgr : w.grownBy (((((((w.setCell ⟨g, i * 3, none⟩ (.int .u64 y.1)).setCell ⟨g, i * 3 + 1, none⟩ (.int .i64 y.2.1)).setCell ⟨g, i * 3 + 2, none⟩ (.int .i64 y.2.2)).setCell ⟨g, j * 3, none⟩ (.int .u64 x.1)).setCell ⟨g, j * 3 + 1, none⟩ (.int .i64 x.2.1)).setCell ⟨g, j * 3 + 2, none⟩ (.int .i64 x.2.2)).drew) (some g) := by
    have e := grown_st (grown_st (grown_st (grown_st (grown_st (grown_st (grown_rfl w (some g)) (i * 3) (.int .u64 y.1)) (i * 3 + 1) (.int .i64 y.2.1)) (i * 3 + 2) (.int .i64 y.2.2)) (j * 3) (.int .u64 x.1)) (j * 3 + 1) (.int .i64 x.2.1)) (j * 3 + 2) (.int .i64 x.2.2)
    exact grown_dr e
  have hTn : some T ≠ (some g : Option Nat) := hap.2.1
  have hMn : some M ≠ (some g : Option Nat) := hap.2.2
  have hB1 := r.blk.kept hgr hTn
  have hm1 := hm.kept hgr hMn
  have hat := at_sw hi hj
  rw [hx'.out, hy'.out] at hat
  have hli : i < (Hp.sw h i j).length := by rw [sw_length]; exact hi
  have hlj : j < (Hp.sw h i j).length := by rw [sw_length]; exact hj
  have ti := TC_at hli
  have tj := TC_at hlj
  rw [hat, if_neg hij, if_pos rfl] at ti
  rw [hat, if_pos rfl] at tj
  have hbT := r.bT
  have hbM := r.bM
  have hok : ∀ z ∈ Hp.sw h i j, TOk z := fun z hz => r.ok z ((sw_perm hi hj).mem_iff.1 hz)
  have hmt : T ≠ M := hap.1
  generalize hH : h.length = n at hin hjn c0 hn hrow hB1 hm1
  have hH' := (show Hid _ from hH)
  clear hH r hm hp hap hx' hy' hat
  obtain ⟨x0, x1, x2⟩ := x
  obtain ⟨y0, y1, y2⟩ := y
  dsimp only at i0 i1 i2 j0 j1 j2 hrow hgr hB1 hm1 hidx hidy hpi hpj hpsw ti tj
  go_enter Try.func68, Try.ntmps68
  go_wp2_with fail
  go_region
  clear i0 i1 i2 j0 j1 j2 c0 c1 c2 f0 f1 f2 f3 f4 f5 n00 n01 n02 n10 n11 n12 n20 n21 n22
  generalize World.drew _ = W1 at hrow hgr hB1 hm1 ⊢
  have hl3 : n * 3 = h.length * 3 := by rw [hH'.out]
  have d1 := (hrow.cellAt (i * 3 + 1) (by omega)).trans ti.2.1
  obtain ⟨b0, b1, b2⟩ := hB1.cell
  obtain ⟨W2, hr2, hm2, hg2⟩ := (show MapI W1.drew M f n from hm1).put (by unfold maxLen; omega) hidy hi64
  go_wp2_with fail
  go_region
  have hg2' : W1.grownBy W2 (some M) := ⟨hg2.os, hg2.tape, hg2.output, hg2.size, hg2.block⟩
  rw [hpj] at hm2
  simp only [Option.isSome_some, if_true] at hm2
  have hB2 := hB1.kept hg2' (by simpa using hmt)
  have hrow2 := hrow.kept hg2' (by simpa [Value.ownBlock] using hMn.symm)
  have hF2 := (Fr.grown (T := T) (M := M) (v := .slice (some ⟨g, 0, none⟩) n cap) hgr (.inr (.inr (.inr rfl)))).trans (Fr.grown (T := T) (M := M) (v := .slice (some ⟨g, 0, none⟩) n cap) hg2' (.inr (.inr (.inl rfl)))) (.inl rfl)
  clear hrow hB1 hm1 hr2 hgr hg2 hg2' b0 b1 b2 d1 ti
  have d1 := (hrow2.cellAt (j * 3 + 1) (by omega)).trans tj.2.1
  obtain ⟨b0, b1, b2⟩ := hB2.cell
  obtain ⟨W3, hr3, hm3, hg3⟩ := (show MapI W2.drew M _ n from hm2).put (by unfold maxLen; omega) hidx hj64
  go_wp2_with fail
  go_region
  have hg3' : W2.grownBy W3 (some M) := ⟨hg3.os, hg3.tape, hg3.output, hg3.size, hg3.block⟩
  have hsome : (upd f y1 (some i) x1).isSome = true := by
    unfold upd
    split
    · rfl
    · rw [hpi]; rfl
  rw [hsome] at hm3
  simp only [if_true] at hm3
  have hB3 := hB2.kept hg3' (by simpa using hmt)
  have hrow3 := hrow2.kept hg3' (by simpa [Value.ownBlock] using hMn.symm)
  have hF3 := hF2.trans (Fr.grown (T := T) (M := M) (v := .slice (some ⟨g, 0, none⟩) n cap) hg3' (.inr (.inr (.inl rfl)))) (.inl rfl)
  clear hrow2 hB2 hm2 hr3 hF2 hg3 hg3' b0 b1 b2 d1 tj
  go_wp2
  go_returns
  have hls : (Hp.sw h i j).length = n := by rw [sw_length]; exact hH'.out
  rw [← hls] at hrow3 hm3 hB3 hF3 ⊢
  exact ⟨rfl, ⟨hB3, hrow3, ⟨_, hm3, hpsw⟩, hok, hbT, hbM⟩, hF3⟩
set_option maxRecDepth 100000 in
set_option maxHeartbeats 4000000 in
theorem swap_eq (base T M : Nat) (last : Int) (h : List Tm) (v : Value) (w : World) (r : TR base T M last h v w) (i : Nat) (hi : i < h.length) (hn : h.length ≤ 1000000) :
    Calls Try.prog 68 #[.pointer (some ⟨T, 0, none⟩), .int .i64 i, .int .i64 i] w fun e w' => e = .returned (.tuple #[]) ∧ TR base T M last (sw h i i) v w' ∧ Fr T M v w w' := by
  obtain ⟨g, cap, rfl, hg⟩ := r.shape (by omega)
  obtain ⟨c0, c1, c2⟩ := r.blk.cell
  have ai := TC_at hi
  have hl := TC_length h
  have i0 := (r.row.cellAt (i * 3) (by omega)).trans ai.1
  have i1 := (r.row.cellAt (i * 3 + 1) (by omega)).trans ai.2.1
  have i2 := (r.row.cellAt (i * 3 + 2) (by omega)).trans ai.2.2
  have f0 := r.row.frozenAt (i * 3)
  have f1 := r.row.frozenAt (i * 3 + 1)
  have f2 := r.row.frozenAt (i * 3 + 2)
  have hin : (i : Int) < (h.length : Int) := by omega
  have hTg : ¬ T = g := fun e => r.apart.2.1 (by rw [e]; rfl)
  generalize hx : at' h i = x at i0 i1 i2
  have hx' := (show Hid _ from hx)
  clear hx ai hl
  obtain ⟨f, hm, hp⟩ := r.map
  have hap := r.apart
  have hidx := ok_id r hi
  rw [hx'.out] at hidx
  have hi64 : I64 (i : Int) := by unfold I64; omega
  have hpi := hp.1 i _ (at_get hi)
  have hpsw := hp.sw hi hi
  rw [hx'.out] at hpi hpsw
  have hrow : (((((((w.setCell ⟨g, i * 3, none⟩ (.int .u64 x.1)).setCell ⟨g, i * 3 + 1, none⟩ (.int .i64 x.2.1)).setCell ⟨g, i * 3 + 2, none⟩ (.int .i64 x.2.2)).setCell ⟨g, i * 3, none⟩ (.int .u64 x.1)).setCell ⟨g, i * 3 + 1, none⟩ (.int .i64 x.2.1)).setCell ⟨g, i * 3 + 2, none⟩ (.int .i64 x.2.2)).drew).ownsRow base 107 3 (.slice (some ⟨g, 0, none⟩) h.length cap) h.length (TC (Hp.sw h i i)) := by
    have e := ((((((r.row.stored (i * 3) (.int .u64 x.1)).1.stored (i * 3 + 1) (.int .i64 x.2.1)).1.stored (i * 3 + 2) (.int .i64 x.2.2)).1.stored (i * 3) (.int .u64 x.1)).1.stored (i * 3 + 1) (.int .i64 x.2.1)).1.stored (i * 3 + 2) (.int .i64 x.2.2)).1
    rw [TC_set, TC_set] at e
    have es : (h.set i x).set i x = Hp.sw h i i := by
      unfold Hp.sw
      rw [hx'.out]
    rw [es] at e
    exact e.drew
  have hgr : w.grownBy (((((((w.setCell ⟨g, i * 3, none⟩ (.int .u64 x.1)).setCell ⟨g, i * 3 + 1, none⟩ (.int .i64 x.2.1)).setCell ⟨g, i * 3 + 2, none⟩ (.int .i64 x.2.2)).setCell ⟨g, i * 3, none⟩ (.int .u64 x.1)).setCell ⟨g, i * 3 + 1, none⟩ (.int .i64 x.2.1)).setCell ⟨g, i * 3 + 2, none⟩ (.int .i64 x.2.2)).drew) (some g) := by
    have e := grown_st (grown_st (grown_st (grown_st (grown_st (grown_st (grown_rfl w (some g)) (i * 3) (.int .u64 x.1)) (i * 3 + 1) (.int .i64 x.2.1)) (i * 3 + 2) (.int .i64 x.2.2)) (i * 3) (.int .u64 x.1)) (i * 3 + 1) (.int .i64 x.2.1)) (i * 3 + 2) (.int .i64 x.2.2)
    exact grown_dr e
  have hTn : some T ≠ (some g : Option Nat) := hap.2.1
  have hMn : some M ≠ (some g : Option Nat) := hap.2.2
  have hB1 := r.blk.kept hgr hTn
  have hm1 := hm.kept hgr hMn
  have hat := at_sw hi hi
  rw [hx'.out] at hat
  have hli : i < (Hp.sw h i i).length := by rw [sw_length]; exact hi
  have ti := TC_at hli
  rw [hat, if_pos rfl] at ti
  have hbT := r.bT
  have hbM := r.bM
  have hok : ∀ z ∈ Hp.sw h i i, TOk z := fun z hz => r.ok z ((sw_perm hi hi).mem_iff.1 hz)
  have hmt : T ≠ M := hap.1
  generalize hH : h.length = n at hin c0 hn hrow hB1 hm1
  have hH' := (show Hid _ from hH)
  clear hH r hm hp hap hx' hat
  obtain ⟨x0, x1, x2⟩ := x
  dsimp only at i0 i1 i2 hrow hgr hB1 hm1 hidx hpi hpsw ti
  go_enter Try.func68, Try.ntmps68
  go_wp2_with fail
  go_region
  clear i0 i1 i2 c0 c1 c2 f0 f1 f2
  generalize World.drew _ = W1 at hrow hgr hB1 hm1 ⊢
  have hl3 : n * 3 = h.length * 3 := by rw [hH'.out]
  have d1 := (hrow.cellAt (i * 3 + 1) (by omega)).trans ti.2.1
  obtain ⟨b0, b1, b2⟩ := hB1.cell
  obtain ⟨W2, hr2, hm2, hg2⟩ := (show MapI W1.drew M f n from hm1).put (by unfold maxLen; omega) hidx hi64
  go_wp2_with fail
  go_region
  have hg2' : W1.grownBy W2 (some M) := ⟨hg2.os, hg2.tape, hg2.output, hg2.size, hg2.block⟩
  rw [hpi] at hm2
  simp only [Option.isSome_some, if_true] at hm2
  have hB2 := hB1.kept hg2' (by simpa using hmt)
  have hrow2 := hrow.kept hg2' (by simpa [Value.ownBlock] using hMn.symm)
  have hF2 := (Fr.grown (T := T) (M := M) (v := .slice (some ⟨g, 0, none⟩) n cap) hgr (.inr (.inr (.inr rfl)))).trans (Fr.grown (T := T) (M := M) (v := .slice (some ⟨g, 0, none⟩) n cap) hg2' (.inr (.inr (.inl rfl)))) (.inl rfl)
  clear hrow hB1 hm1 hr2 hgr hg2 hg2' b0 b1 b2 d1
  have d1 := (hrow2.cellAt (i * 3 + 1) (by omega)).trans ti.2.1
  obtain ⟨b0, b1, b2⟩ := hB2.cell
  obtain ⟨W3, hr3, hm3, hg3⟩ := (show MapI W2.drew M _ n from hm2).put (by unfold maxLen; omega) hidx hi64
  go_wp2_with fail
  go_region
  have hg3' : W2.grownBy W3 (some M) := ⟨hg3.os, hg3.tape, hg3.output, hg3.size, hg3.block⟩
  have hsome : (upd f x1 (some i) x1).isSome = true := by
    simp [upd]
  rw [hsome] at hm3
  simp only [if_true] at hm3
  have hB3 := hB2.kept hg3' (by simpa using hmt)
  have hrow3 := hrow2.kept hg3' (by simpa [Value.ownBlock] using hMn.symm)
  have hF3 := hF2.trans (Fr.grown (T := T) (M := M) (v := .slice (some ⟨g, 0, none⟩) n cap) hg3' (.inr (.inr (.inl rfl)))) (.inl rfl)
  clear hrow2 hB2 hm2 hr3 hF2 hg3 hg3' b0 b1 b2 d1 ti
  go_wp2
  go_returns
  have hls : (Hp.sw h i i).length = n := by rw [sw_length]; exact hH'.out
  rw [← hls] at hrow3 hm3 hB3 hF3 ⊢
  exact ⟨rfl, ⟨hB3, hrow3, ⟨_, hm3, hpsw⟩, hok, hbT, hbM⟩, hF3⟩

theorem swap_any (base T M : Nat) (last : Int) (h : List Tm) (v : Value) (w : World) (r : TR base T M last h v w) (i j : Nat) (hi : i < h.length) (hj : j < h.length) (hn : h.length ≤ 1000000) :
    Calls Try.prog 68 #[.pointer (some ⟨T, 0, none⟩), .int .i64 i, .int .i64 j] w fun e w' => e = .returned (.tuple #[]) ∧ TR base T M last (sw h i j) v w' ∧ Fr T M v w w' := by
  by_cases hij : i = j
  · subst hij
    exact swap_eq base T M last h v w r i hi hn
  · exact swap_ne base T M last h v w r i j hi hj hij hn
end Go.Proofs.Ytjkjepoeiabpiaa
