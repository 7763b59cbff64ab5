import Derived.Test.YtakaadcpaeiccabGreatX5
import Derived.Test.YtakaadcpaeiccabGreatGV
import Derived.Test.YtakaadcpaeiccabGreatD4
import Derived.Test.YtakaadcpaeiccabGreatX1
import Derived.Test.YtakaadcpaeiccabGreatGT
import Derived.Test.YtakaadcpaeiccabGreatLk
import Derived.Test.YtakaadcpaeiccabGreatE18
namespace Go.Proofs.YtakaadcpaeiccabGreat
open Go.RowKit Go.Maps

theorem info_fr : (Tryz.prog.info? 77).map (fun i => (i.zero, i.size, i.bytes)) = some (some (.agg #[.int .u32 0, .string ⟨#[]⟩]), 2, 24) := by kernel_rfl
theorem info_rs : (Tryz.prog.info? 195).map (fun i => (i.zero, i.size, i.bytes)) = some (some (.int .i64 0), 1, 8) := by kernel_rfl
/-- The frame that goes out: of no packet none. -/
def encX (p : Pkt) (L : List (Int × Int)) : List Int := if p.goodB then encB p L else []
theorem Encode_x (p : Pkt) (hp : p.Wf) (L : List (Int × Int)) (w : World) (hL : HoldsL w p L) :
    Calls Tryz.prog 117 #[p.val] w fun e w' => ∃ a n c er, e = .returned (.tuple #[.slice a n c, .int .i64 er]) ∧ Below w.heap.size w w' ∧ ∀ W, Below w'.heap.size w' W → (convert 58 9 (.slice a n c)).run Tryz.prog W = .ok (.string (strOfNums (encX p L))) W := by
  cases hg : p.goodB
  · refine (Encode_bad p hp hg w).mono ?_
    rintro e w' ⟨rfl, hb⟩
    refine ⟨none, 0, 0, 1, rfl, hb, fun W _ => ?_⟩
    have : encX p L = [] := by simp [encX, hg]
    rw [this]
    exact run_convert_bytes_nil (P := Tryz.prog) W 58 5 Tryz.underlying58 Tryz.underlying5 0 0 9 Tryz.underlying9
  · obtain ⟨h1, h2, h3, h4, h5⟩ := good_fits hg
    obtain ⟨_, k1, k2, _, _, k3, _⟩ := good_parts hg
    refine (Encode_good p hp hg (by omega) (by omega) h1 h2 h3 h4 h5 (by omega) L w hL).mono ?_
    rintro e w' ⟨v, rfl, hb, hv, ho⟩
    obtain ⟨g, cap, rfl, _⟩ := row_shape ho hv
    refine ⟨_, _, _, 0, rfl, hb, fun W hW => ?_⟩
    have : encX p L = encB p L := by simp [encX, hg]
    rw [this]
    exact conv_row W _ _ _ (step_append_kept ho hW) hv

theorem cells_rs (W : World) (r : Int) : ∀ (j : Nat) (u : Value), (DrC [r])[j]? = some u → (W.alloc (.cells #[.int .i64 r] 195)).cell? ((⟨W.heap.size, 0, none⟩ : Addr).add j) = some u := by
  intro j u hj
  have h := heap_alloc_new W (.cells #[.int .i64 r] 195)
  rw [Addr.add_lit, Nat.zero_add]
  match j, hj with
  | 0, hj => exact (cell_of_row _ _ 0 _ _ _ h).trans hj
  | j + 1, hj => simp [DrC] at hj
theorem one_rs (L : List Int) : ∀ u ∈ DrC L, u.oneCell' = true := by
  intro u hu
  simp only [DrC, List.mem_map] at hu
  obtain ⟨y, _, rfl⟩ := hu
  rfl
theorem cells_fr (W : World) (t : Int) (s : ByteArray) : ∀ (j : Nat) (u : Value), (FrC [(t, s)])[j]? = some u → (W.alloc (.cells #[.int .u32 t, .string s] 77)).cell? ((⟨W.heap.size, 0, none⟩ : Addr).add j) = some u := by
  intro j u hj
  have h := heap_alloc_new W (.cells #[.int .u32 t, .string s] 77)
  rw [Addr.add_lit, Nat.zero_add]
  match j, hj with
  | 0, hj => exact (cell_of_row _ _ 0 _ _ _ h).trans hj
  | 1, hj => exact (cell_of_row _ _ 1 _ _ _ h).trans hj
  | j + 2, hj => simp [FrC] at hj
theorem one_fr (L : List (Int × ByteArray)) : ∀ u ∈ FrC L, u.oneCell' = true := by
  intro u hu
  simp only [FrC, List.mem_flatMap, List.mem_cons, List.not_mem_nil, or_false] at hu
  obtain ⟨y, _, rfl | rfl⟩ := hu <;> rfl
theorem AcM.alloc {B base : Nat} {a : AcV} {nws : List (Bool × Int × Int)} {frs cms : List (Int × ByteArray)} {drs : List Int} {W : World} (h : AcM B base a nws frs cms drs W) (o : Obj) : AcM B base a nws frs cms drs (W.alloc o) := h.later ((Below.refl _ _).alloc (Nat.le_refl _) o)
theorem AcM.drew {B base : Nat} {a : AcV} {nws : List (Bool × Int × Int)} {frs cms : List (Int × ByteArray)} {drs : List Int} {W : World} (h : AcM B base a nws frs cms drs W) : AcM B base a nws frs cms drs W.drew := h.later (Below.refl _ _).drew
/-- The list of what is dropped has grown. -/
theorem AcM.drops {B base : Nat} {a : AcV} {nws : List (Bool × Int × Int)} {frs cms : List (Int × ByteArray)} {drs drs' : List Int} {W W7 : World} (h : AcM B base a nws frs cms drs W) {v7 : Value} (ho : W7.ownsRow base 195 1 v7 drs'.length (DrC drs')) (hg : W.grownBy W7 a.drp.ownBlock) :
    AcB B a W7 ∧ AcM B base { a with drp := v7 } nws frs cms drs' (W7.setCell ⟨B, 6, none⟩ v7) ∧ Fx (AcIn B a) W (W7.setCell ⟨B, 6, none⟩ v7) := by
  have hBr : a.drp.ownBlock ≠ some B := row_not h.drp h.blk (fun c e => (by cases e))
  have hB7 : AcB B a W7 := h.blk.block (hg.block _ h.blk.lt (fun e => hBr e.symm))
  have hg2 : W7.grownBy (W7.setCell ⟨B, 6, none⟩ v7) (some B) := grown_cellOf (grown_self _ (some B)) 6 v7
  have f1 := h.frm.kept hg (rows_apart h.frm h.drp (by decide))
  have f2 := h.cam.kept hg (rows_apart h.cam h.drp (by decide))
  have f3 := h.wrt.kept hg (rows_apart h.wrt h.drp (by decide))
  exact ⟨hB7, ⟨hB7.setDrp v7, f3.kept hg2 (.inr (row_not f3 hB7 (fun c e => (by cases e)))), f1.kept hg2 (.inr (row_not f1 hB7 (fun c e => (by cases e)))), f2.kept hg2 (.inr (row_not f2 hB7 (fun c e => (by cases e)))), ho.kept hg2 (.inr (row_not ho hB7 (fun c e => (by cases e))))⟩,
    grown_Fx (Fx.grown hg fun k e => .inr (.inr (.inr (.inr e)))) hg2 fun i _ e => by cases e; exact .inl rfl⟩
theorem AcM.sends {B base : Nat} {a : AcV} {nws : List (Bool × Int × Int)} {frs frs' cms : List (Int × ByteArray)} {drs : List Int} {W W7 : World} (h : AcM B base a nws frs cms drs W) {v7 : Value} (ho : W7.ownsRow base 77 2 v7 frs'.length (FrC frs')) (hg : W.grownBy W7 a.frm.ownBlock) :
    AcB B a W7 ∧ AcM B base { a with frm := v7 } nws frs' cms drs (W7.setCell ⟨B, 4, none⟩ v7) ∧ Fx (AcIn B a) W (W7.setCell ⟨B, 4, none⟩ v7) := by
  have hBr : a.frm.ownBlock ≠ some B := row_not h.frm h.blk (fun c e => (by cases e))
  have hB7 : AcB B a W7 := h.blk.block (hg.block _ h.blk.lt (fun e => hBr e.symm))
  have hg2 : W7.grownBy (W7.setCell ⟨B, 4, none⟩ v7) (some B) := grown_cellOf (grown_self _ (some B)) 4 v7
  have f1 := h.drp.kept hg (rows_apart h.drp h.frm (by decide))
  have f2 := h.cam.kept hg (rows_apart h.cam h.frm (by decide))
  have f3 := h.wrt.kept hg (rows_apart h.wrt h.frm (by decide))
  exact ⟨hB7, ⟨hB7.setFrm v7, f3.kept hg2 (.inr (row_not f3 hB7 (fun c e => (by cases e)))), ho.kept hg2 (.inr (row_not ho hB7 (fun c e => (by cases e)))), f2.kept hg2 (.inr (row_not f2 hB7 (fun c e => (by cases e)))), f1.kept hg2 (.inr (row_not f1 hB7 (fun c e => (by cases e))))⟩,
    grown_Fx (Fx.grown hg fun k e => .inr (.inr (.inl e))) hg2 fun i _ e => by cases e; exact .inl rfl⟩

set_option maxRecDepth 100000 in
set_option maxHeartbeats 4000000 in
theorem drop_any (B base : Nat) (a : AcV) (nws : List (Bool × Int × Int)) (frs cms : List (Int × ByteArray)) (drs : List Int) (r : Int) (w : World) (ha : AcM B base a nws frs cms drs w) (hbs : base ≤ w.heap.size) (hd : drs.length ≤ 1000000) :
    Calls Tryz.prog 92 #[.pointer (some ⟨B, 0, none⟩), .int .i64 r] w fun e w' => ∃ v7, e = .returned (.tuple #[]) ∧ AcM B base { a with drp := v7 } nws frs cms (drs ++ [r]) w' ∧ Fx (AcIn B a) w w' := by
  obtain ⟨i0, hi, hz0, hz1, hz2⟩ := info_parts info_rs
  have hbA : Below w.heap.size w (w.alloc (.cells #[.int .i64 r] 195)) := (Below.refl _ _).alloc (Nat.le_refl _) _
  have ha1 := ha.alloc (.cells #[.int .i64 r] 195)
  have hcr := cells_rs w r
  have hrow := ha1.drp
  obtain ⟨c0, c1, c2, c3, c4, c5, c6⟩ := ha.blk.cell
  go_enter Tryz.func92, Tryz.ntmps92
  go_wp2_with (at_builtin; refine wpList_append_own_at _ rfl _ _ 50 rfl base 195 i0 (.int .i64 0) 1 8 Tryz.underlying50 hi hz0 hz1 hz2 rfl (by decide) a.drp drs.length (DrC drs) rfl hrow ⟨w.heap.size, 0, none⟩ 1 1 (DrC [r]) rfl rfl hcr (one_rs [r]) (by unfold maxLen; omega) (by omega) ?c3 ?_)
  case c3 => simp; omega
  intro v7 w7 ho7 hg7 _ _
  rw [← DrC_append] at ho7
  have hll : drs.length + 1 = (drs ++ [r]).length := by simp
  rw [hll] at ho7
  obtain ⟨hB7, hm, hf⟩ := ha1.drops ho7 hg7
  have hf' := (Fx.below (S := AcIn B a) hbA).trans hf (fun i _ h => h)
  obtain ⟨d0, d1, d2, d3, d4, d5, d6⟩ := hB7.cell
  have g6 := hB7.free 6
  obtain ⟨ao7, cc7, hv7, _⟩ := row_form ho7
  generalize (drs ++ [r]).length = nn at hv7
  subst hv7
  clear hll hrow hcr c0 c1 c2 c3 c4 c5 c6 ha1 hB7 hg7 ho7
  go_wp2
  go_returns
  exact ⟨_, rfl, hm, hf'⟩

set_option maxRecDepth 100000 in
set_option maxHeartbeats 4000000 in
theorem send_any (B base : Nat) (a : AcV) (nws : List (Bool × Int × Int)) (frs cms : List (Int × ByteArray)) (drs : List Int) (tt : Int) (p : Pkt) (hp : p.Wf) (L : List (Int × Int)) (w : World) (ha : AcM B base a nws frs cms drs w) (hbs : base ≤ w.heap.size) (hd : frs.length ≤ 1000000) (hL : HoldsL w p L) :
    Calls Tryz.prog 80 #[.pointer (some ⟨B, 0, none⟩), .int .u32 tt, p.val] w fun e w' => ∃ v7, e = .returned (.tuple #[]) ∧ AcM B base { a with frm := v7 } nws (frs ++ [(tt, strOfNums (encX p L))]) cms drs w' ∧ Fx (AcIn B a) w w' := by
  obtain ⟨i0, hi, hz0, hz1, hz2⟩ := info_parts info_fr
  have hb0 : Below w.heap.size w (w.alloc p.box) := (Below.refl _ _).alloc (Nat.le_refl _) _
  have hP := PB.new p w
  have HE := (show Hid _ from fun W hW => Encode_x p hp L W (hL.below hW))
  dsimp only [Pkt.box] at hb0
  unfold PB at hP
  dsimp only [Pkt.box] at hP
  go_enter Tryz.func80, Tryz.ntmps80
  go_upto_region 1 with (fail)
  generalize World.alloc _ _ = W1 at hb0 hP ⊢
  generalize w.heap.size = C at hP ⊢
  obtain ⟨b0, b1, b2, b3, b4, b5, b6, b7, b8, b9, b10, b11⟩ := PB.cell (show PB p C W1 from hP)
  go_wp2_with fail
  refine Calls.mono (HE.out W1 hb0) ?_
  rintro e w2 ⟨ea, en, ec, er, rfl, hb2, hcv⟩
  have hbb := hb0.trans (hb2.mono hb0.size)
  have ha2 := ha.later hbb
  have hcv0 := hcv w2 (Below.refl _ _)
  have hcv1 := hcv w2.drew (Below.refl _ _).drew
  generalize hss : strOfNums (encX p L) = ss at hcv0 hcv1
  have hss' := (show Hid _ from hss)
  clear hss hcv hb0 hb2 hP b0 b1 b2 b3 b4 b5 b6 b7 b8 b9 b10 b11 HE
  have hz := hbb.size
  have c4 := ha2.blk.cell.2.2.2.2.1
  have haT := fun o => (ha2.alloc o).blk.cell.2.2.2.2.1
  have hrow := fun o => (ha2.alloc o).drew.frm
  have hcf := fun W => cells_fr W tt ss
  have hbA : Hid (∀ o : Obj, base ≤ (w2.alloc o).drew.heap.size) := by
    intro o
    show base ≤ (w2.alloc o).heap.size
    rw [World.size_alloc]
    omega
  have HF : Hid (∀ v7 w7, w7.ownsRow base 77 2 v7 (frs.length + 1) (FrC frs ++ FrC [(tt, ss)]) → (w2.alloc (.cells #[.int .u32 tt, .string ss] 77)).drew.grownBy w7 a.frm.ownBlock → (w7.cell? ⟨B, 4, none⟩ = some a.frm ∧ w7.frozen? ⟨B, 4, none⟩ = false) ∧ AcM B base { a with frm := v7 } nws (frs ++ [(tt, ss)]) cms drs (w7.setCell ⟨B, 4, none⟩ v7) ∧ Fx (AcIn B a) w (w7.setCell ⟨B, 4, none⟩ v7)) := by
    intro v7 w7 ho7 hg7
    rw [← FrC_append, show frs.length + 1 = (frs ++ [(tt, ss)]).length by simp] at ho7
    have hb3 : Below w2.heap.size w2 (w2.alloc (.cells #[.int .u32 tt, .string ss] 77)).drew := ((Below.refl _ _).alloc (Nat.le_refl _) _).drew
    obtain ⟨hB7, hm, hf⟩ := (ha2.later hb3).sends ho7 hg7
    exact ⟨⟨hB7.cell.2.2.2.2.1, hB7.free 4⟩, hm, ((Fx.below (S := AcIn B a) hbb).trans (Fx.below (S := AcIn B a) hb3) (fun _ _ h => h)).trans hf (fun _ _ h => h)⟩
  clear ha ha2 hbb
  go_wp2_with fail
  go_region_law (refine step_append_at rfl (.tmp 18) (.tmp 23) 48 rfl base 77 i0 (.agg #[.int .u32 0, .string ⟨#[]⟩]) 2 24 Tryz.underlying48 hi hz0 hz1 hz2 rfl (by decide) a.frm frs.length (FrC frs) (by simp [Act.eval]) (hrow _) ⟨_, 0, none⟩ 1 1 (FrC [(tt, ss)]) (by simp [Act.eval]) rfl (hcf _) (one_fr _) (by unfold maxLen; omega) (by omega) (hbA.out _) ?_; intro v7 w7 ho7 hg7 _; obtain ⟨⟨g1, g2⟩, hm, hf⟩ := HF.out _ _ ho7 hg7; obtain ⟨ao7, cc7, rfl, _⟩ := row_form ho7)
  all_goals
    rw [← hss'.out] at hm
    generalize World.setCell _ _ _ = w8 at hm hf ⊢
    clear g1 g2 hg7 ho7
    go_wp2
    go_returns
    exact ⟨_, rfl, hm, hf⟩
end Go.Proofs.YtakaadcpaeiccabGreat

namespace Go.Proofs.YtakaadcpaeiccabGreat
open Go.RowKit Go.Maps

/-- The number of a destination's line; 0 without one. -/
def numL (A : List Rt) (d : Int) : Int := ((lineOf A d).map (·.seq)).getD 0
set_option maxHeartbeats 1000000 in
theorem tnum_any {me : Int} {T M : Nat} {f : Int → Option Nat} {g : Int → Value} {A : List Rt} {w : World} (h : MT me T M f g A w) (d : Int) (hd : U32 d) :
    Calls Tryz.prog 157 #[.pointer (some ⟨T, 0, none⟩), .int .u32 d] w fun e w' => e = .returned (.tuple #[.int .u32 (numL A d), .bool (lineOf A d).isSome]) ∧ w' = w := by
  obtain ⟨t0, t1⟩ := h.blk.cell
  have hlk := h.map.look hd
  cases hl : lineOf A d with
  | none =>
    rw [h.off hd hl] at hlk
    simp only [ptrOf] at hlk
    have hn : numL A d = 0 := by simp [numL, hl]
    rw [hn]
    clear h hn hl
    go_enter Tryz.func157, Tryz.ntmps157
    go_wp2
    go_ret2
    exact ⟨rfl, rfl⟩
  | some x =>
    obtain ⟨_, _, B, hB, hL, _⟩ := h.line hl
    rw [hB] at hlk
    simp only [ptrOf] at hlk
    obtain ⟨b0, b1, b2, b3, b4, b5, b6⟩ := hL.cell
    have hn : numL A d = x.seq := by simp [numL, hl]
    rw [hn]
    clear h hn hl hL hB
    go_enter Tryz.func157, Tryz.ntmps157
    go_wp2
    go_ret2
    exact ⟨rfl, rfl⟩

set_option maxRecDepth 100000 in
set_option maxHeartbeats 2000000 in
theorem nlost_any (N : Nat) (x : NdV) {M : Nat} {ff : Int → Option Nat} {gg : Int → Value} {A : List Rt} {f : Int → Option Int} {sz : Nat} {w : World} (hn : NdM N x M ff gg A f sz w) (d : Int) (hd : U32 d) :
    Calls Tryz.prog 159 #[.pointer (some ⟨N, 0, none⟩), .int .u32 d] w fun e w' => e = .returned (.agg #[.int .u32 d, .int .u32 (numL A d)]) ∧ Below w.heap.size w w' := by
  have hb0 : Below w.heap.size w (w.alloc (.cells #[.int .u32 0, .int .u32 0] 237)) := (Below.refl _ _).alloc (Nat.le_refl _) _
  have hn1 := hn.later hb0
  have hC : (w.alloc (.cells #[.int .u32 0, .int .u32 0] 237)).heap[w.heap.size]? = some (.cells #[.int .u32 0, .int .u32 0] 237) := heap_alloc_new _ _
  go_enter Tryz.func159, Tryz.ntmps159
  go_upto_region 1 with (fail)
  generalize World.alloc _ _ = W1 at hb0 hn1 hC ⊢
  obtain ⟨n0, n2, n3, n4, n5, n6, n7, n8, n9, n10⟩ := hn1.nd.cell
  have q0 : W1.cell? ⟨w.heap.size, 0, none⟩ = some (.int .u32 0) := cell_of_row W1 w.heap.size 0 _ _ _ hC
  have q1 : W1.cell? ⟨w.heap.size, 1, none⟩ = some (.int .u32 0) := cell_of_row W1 w.heap.size 1 _ _ _ hC
  have f0 := frozen_of_row W1 w.heap.size 0 _ _ hC
  have f1 := frozen_of_row W1 w.heap.size 1 _ _ hC
  go_wp2_with fail
  refine Calls.mono (tnum_any hn1.tb d hd) ?_
  rintro e w2 ⟨rfl, rfl⟩
  have hb2 : Below w.heap.size w ((w2.setCell ⟨w.heap.size, 0, none⟩ (.int .u32 d)).setCell ⟨w.heap.size, 1, none⟩ (.int .u32 (numL A d))) := (hb0.setCell (p := ⟨w.heap.size, 0, none⟩) (Nat.le_refl _) _).setCell (p := ⟨w.heap.size, 1, none⟩) (Nat.le_refl _) _
  have hC2 : ((w2.setCell ⟨w.heap.size, 0, none⟩ (.int .u32 d)).setCell ⟨w.heap.size, 1, none⟩ (.int .u32 (numL A d))).heap[w.heap.size]? = some (.cells #[.int .u32 d, .int .u32 (numL A d)] 237) := by
    simp [World.setCell, Array.getElem?_modify, hC]
  clear hn1 n0 n2 n3 n4 n5 n6 n7 n8 n9 n10
  go_wp2
  generalize World.setCell _ _ _ = W3 at hb2 hC2 ⊢
  have p0 : W3.cell? ⟨w.heap.size, 0, none⟩ = some (.int .u32 d) := cell_of_row W3 w.heap.size 0 _ _ _ hC2
  have p1 : W3.cell? ⟨w.heap.size, 1, none⟩ = some (.int .u32 (numL A d)) := cell_of_row W3 w.heap.size 1 _ _ _ hC2
  exact bodyPost_ret (v := .agg #[.int .u32 d, .int .u32 (numL A d)]) (by simp [results, Tryz.results159, go_sem, p0, p1]) rfl ⟨rfl, hb2⟩

/-- The packet that tells what is lost. -/
def lsP (n : Nat) : Pkt := ⟨1, 3, 0, false, 0, 0, 0, 0, 0, 0, none, n, 0, ⟨#[]⟩⟩
theorem lsP_wf (n : Nat) (hn : n ≤ 65536) (ao : Option Addr) (c : Nat) : ({ lsP n with la := ao, lc := c } : Pkt).Wf := by
  have hz : (⟨#[]⟩ : ByteArray).size = 0 := rfl
  constructor <;> (dsimp only [lsP]; omega)
theorem encX_la (p : Pkt) (ao : Option Addr) (c : Nat) (L : List (Int × Int)) : encX { p with la := ao, lc := c } L = encX p L := by
  unfold encX
  rw [goodB_la]
  rfl
/-- The frame that tells what is lost. -/
def lsB (L : List (Int × Int)) : ByteArray := strOfNums (encX (lsP L.length) L)
def lsF (tt : Int) (L : List (Int × Int)) : List (Int × ByteArray) := if L.length = 0 then [] else [(tt, lsB L)]

set_option maxRecDepth 100000 in
set_option maxHeartbeats 2000000 in
theorem lose_any (B base : Nat) (a : AcV) (nws : List (Bool × Int × Int)) (frs cms : List (Int × ByteArray)) (drs : List Int) (tt : Int) (ao : Option Addr) (c : Nat) (L : List (Int × Int)) (w : World) (ha : AcM B base a nws frs cms drs w) (hbs : base ≤ w.heap.size) (hd : frs.length ≤ 1000000) (hn : L.length ≤ 65536) (hL : HoldsA w ao L) :
    Calls Tryz.prog 137 #[.pointer (some ⟨B, 0, none⟩), .int .u32 tt, .slice ao L.length c] w fun e w' => ∃ v7, e = .returned (.tuple #[]) ∧ AcM B base { a with frm := v7 } nws (frs ++ lsF tt L) cms drs w' ∧ Fx (AcIn B a) w w' := by
  by_cases h0 : L.length = 0
  · have hf : lsF tt L = [] := by simp [lsF, h0]
    rw [hf, List.append_nil]
    rw [h0]
    clear hf
    go_enter Tryz.func137, Tryz.ntmps137
    go_wp2
    go_returns
    exact ⟨a.frm, rfl, ha, Fx.refl _ _⟩
  · have hf : lsF tt L = [(tt, strOfNums (encX { lsP L.length with la := ao, lc := c } L))] := by
      rw [encX_la]
      simp [lsF, h0, lsB]
    have hpos : (0 : Int) < (L.length : Int) := by omega
    rw [hf]
    have HS := (show Hid _ from send_any B base a nws frs cms drs tt { lsP L.length with la := ao, lc := c } (lsP_wf _ hn ao c) L w ha hbs hd ⟨rfl, hL⟩)
    clear hf hL
    dsimp only [lsP, Pkt.val] at HS
    go_enter Tryz.func137, Tryz.ntmps137
    go_wp2_with fail
    refine Calls.mono HS.out ?_
    rintro e w' ⟨v7, rfl, h1, h2⟩
    go_wp2
    go_returns
    exact ⟨v7, rfl, h1, h2⟩
end Go.Proofs.YtakaadcpaeiccabGreat

namespace Go.Proofs.YtakaadcpaeiccabGreat
open Go.RowKit Go.Maps

set_option maxRecDepth 100000 in
set_option maxHeartbeats 2000000 in
theorem loseOne_any (N B base : Nat) (x : NdV) (a : AcV) {M : Nat} {ff : Int → Option Nat} {gg : Int → Value} {A : List Rt} {f : Int → Option Int} {sz : Nat} (nws : List (Bool × Int × Int)) (frs cms : List (Int × ByteArray)) (drs : List Int) (tt d : Int) (hd : U32 d) (w : World) (hn : NdM N x M ff gg A f sz w) (ha : AcM B base a nws frs cms drs w) (hbs : base ≤ w.heap.size) (hfl : frs.length ≤ 1000000) :
    Calls Tryz.prog 129 #[.pointer (some ⟨N, 0, none⟩), .pointer (some ⟨B, 0, none⟩), .int .u32 tt, .int .u32 d] w fun e w' => ∃ v7, e = .returned (.tuple #[]) ∧ AcM B base { a with frm := v7 } nws (frs ++ [(tt, lsB [(d, numL A d)])]) cms drs w' ∧ Fx (AcIn B a) w w' := by
  have hs : U32 (numL A d) := by
    unfold numL
    cases hl : lineOf A d with
    | none => exact ⟨by simp, by simp⟩
    | some y => exact (hn.tb.ok y (lineOf_some hl).1).seq
  have HL := (show Hid _ from nlost_any N x hn d hd)
  have HS : Hid (∀ w1, Below w.heap.size w w1 → Calls Tryz.prog 137 #[.pointer (some ⟨B, 0, none⟩), .int .u32 tt, .slice (some ⟨w1.heap.size, 0, none⟩) 1 1] (w1.alloc (.cells #[.int .u32 d, .int .u32 (numL A d)] 237)) fun e w' => ∃ v7, e = .returned (.tuple #[]) ∧ AcM B base { a with frm := v7 } nws (frs ++ [(tt, lsB [(d, numL A d)])]) cms drs w' ∧ Fx (AcIn B a) w w') := by
    intro w1 hb
    have hb2 : Below w.heap.size w (w1.alloc (.cells #[.int .u32 d, .int .u32 (numL A d)] 237)) := hb.alloc hb.size _
    have hH : HoldsA (w1.alloc (.cells #[.int .u32 d, .int .u32 (numL A d)] 237)) (some ⟨w1.heap.size, 0, none⟩) [(d, numL A d)] := by
      intro j hj
      have hj0 : j = 0 := by simpa using hj
      subst hj0
      have hC := heap_alloc_new w1 (.cells #[.int .u32 d, .int .u32 (numL A d)] 237)
      unfold U32 at hd hs
      exact ⟨w1.heap.size, 0, d, numL A d, rfl, by simp, rfl, hd.1, by omega, hs.1, by omega, cell_of_row _ _ 0 _ _ _ hC, cell_of_row _ _ 1 _ _ _ hC⟩
    refine (lose_any B base a nws frs cms drs tt (some ⟨w1.heap.size, 0, none⟩) 1 [(d, numL A d)] _ (ha.later hb2) (Nat.le_trans hbs hb2.size) hfl (by simp) hH).mono ?_
    rintro e w' ⟨v7, rfl, h1, h2⟩
    exact ⟨v7, rfl, h1, (Fx.below (S := AcIn B a) hb2).trans h2 (fun _ _ h => h)⟩
  clear hn ha
  go_enter Tryz.func129, Tryz.ntmps129
  go_wp2_with fail
  refine Calls.mono HL.out ?_
  rintro e w1 ⟨rfl, hb1⟩
  go_wp2_with fail
  refine Calls.mono (HS.out w1 hb1) ?_
  rintro e w' ⟨v7, rfl, h1, h2⟩
  go_wp2
  go_returns
  exact ⟨v7, rfl, h1, h2⟩

/-- The blocks of a node. -/
def NdIn (N : Nat) (x : NdV) (M : Nat) (ff : Int → Option Nat) (gg : Int → Value) (A : List Rt) (k : Nat) : Prop := k = N ∨ k = x.Mo ∨ TIn x.T M ff gg A k
def acZ (now : Int) : AcV := ⟨now, .slice none 0 0, ⟨#[]⟩, false, .slice none 0 0, .slice none 0 0, .slice none 0 0⟩
theorem AcM.zero (now : Int) (W : World) : AcM W.heap.size (W.heap.size + 1) (acZ now) [] [] [] [] (W.alloc (acBox (acZ now))) :=
  ⟨heap_alloc_new _ _, ⟨rfl, .inl ⟨rfl, rfl⟩⟩, ⟨rfl, .inl ⟨rfl, rfl⟩⟩, ⟨rfl, .inl ⟨rfl, rfl⟩⟩, ⟨rfl, .inl ⟨rfl, rfl⟩⟩⟩

set_option maxRecDepth 100000 in
set_option maxHeartbeats 2000000 in
theorem begin_any (N : Nat) (x : NdV) {M : Nat} {ff : Int → Option Nat} {gg : Int → Value} {A : List Rt} {f : Int → Option Int} {sz : Nat} (now : Int) (w : World) (hn : NdM N x M ff gg A f sz w) (hcnt : 0 ≤ x.cnt ∧ x.cnt ≤ 1000000) (hsz : sz ≤ 1000000) :
    Calls Tryz.prog 51 #[.pointer (some ⟨N, 0, none⟩), .int .u64 now] w fun e w' => ∃ gg' v7 sz', e = .returned (.pointer (some ⟨w.heap.size, 0, none⟩)) ∧ NdM N { x with own := mxO x.seq x.own, cnt := x.cnt + (newsP x.seq x.own f (expL A now)).2.length } M ff gg' (expL A now) (newsP x.seq x.own f (expL A now)).1 sz' w' ∧ sz' ≤ sz + 8 ∧ AcM w.heap.size (w.heap.size + 1) { acZ now with wrt := v7 } (newsP x.seq x.own f (expL A now)).2 [] [] [] w' ∧ (∀ k, NdIn N x M ff gg' (expL A now) k → NdIn N x M ff gg A k) ∧ Fx (NdIn N x M ff gg A) w w' := by
  have hb0 : Below w.heap.size w (w.alloc (acBox (acZ now))) := (Below.refl _ _).alloc (Nat.le_refl _) _
  have hn1 := hn.later hb0
  have ha1 := AcM.zero now w
  have hlt : ∀ k, NdIn N x M ff gg A k → k < w.heap.size := by
    rintro k (rfl | rfl | hk)
    · exact hn.nd.lt
    · exact hn.mo.lt
    · exact hn.tb.lt hk
  have HE : Hid (Calls Tryz.prog 76 #[.pointer (some ⟨x.T, 0, none⟩), .int .u64 now] (w.alloc (acBox (acZ now))) fun e w2 => ∃ gg', e = .returned (.tuple #[]) ∧ NdM N x M ff gg' (expL A now) f sz w2 ∧ AcM w.heap.size (w.heap.size + 1) (acZ now) [] [] [] [] w2 ∧ (∀ k, TIn x.T M ff gg' (expL A now) k → TIn x.T M ff gg A k) ∧ Fx (NdIn N x M ff gg A) w w2 ∧ w.heap.size + 1 ≤ w2.heap.size) := by
    refine (Expire_any (S := TIn x.T M ff gg A) now hn1.tb (fun _ h => h) (fun k hk => hn1.tb.lt hk)).mono ?_
    rintro e w2 ⟨gg', rfl, h2, h3, h4⟩
    refine ⟨gg', rfl, ⟨hn1.nd.block (h4.block _ hn1.nd.lt fun hk => ?_), hn1.mo.block (h4.block _ hn1.mo.lt fun hk => ?_), h2, hn.ne⟩, ha1.kept fun k hk => h4.block _ (ha1.lt hk) fun hk2 => ?_, h3, (Fx.below (S := NdIn N x M ff gg A) hb0).trans h4 (fun i _ h => .inr (.inr h)), ?_⟩
    · exact hn1.tb.not (fun e => by
        obtain ⟨D, ⟨es, cl, hm, _⟩, _⟩ := hn1.tb.map
        rw [← e, show (w.alloc (acBox (acZ now))).heap[N]? = _ from hn1.nd] at hm
        cases hm) hn1.nd (nd_offT x) hk
    · obtain ⟨es, cl, hm⟩ := hn1.mo.obj
      exact hn1.tb.not (Ne.symm hn1.ne) hm (map_offT es cl) hk
    · obtain ⟨o, p1, p2, _, p4⟩ := ha1.offT hk
      exact hn1.tb.not (fun e => by
        obtain ⟨D, ⟨es, cl, hm, _⟩, _⟩ := hn1.tb.map
        rw [← e, p1] at hm
        exact p4 _ _ (Option.some.inj hm)) p1 p2 hk2
    · have := h4.size
      simp at this
      omega
  have hc5 := hn1.nd.cell.2.2.2.2.1
  clear hb0 ha1
  dsimp only [acBox, acZ] at HE hc5
  go_enter Tryz.func51, Tryz.ntmps51
  go_wp2_with fail
  refine Calls.mono HE.out ?_
  rintro e w2 ⟨gg', rfl, hn2, ha2, ht2, hf2, hs2⟩
  clear HE hc5 hn1
  go_wp2_with fail
  refine Calls.mono (write_any N w.heap.size (w.heap.size + 1) x _ M ff gg' (expL A now) f sz [] [] [] [] w2 hn2 ha2 hs2 hcnt hsz (by simp)) ?_
  rintro e w3 ⟨v7, sz', rfl, k1, k2, k3, k4⟩
  rw [List.nil_append] at k3
  go_wp2
  go_ret
  refine ⟨gg', v7, sz', rfl, k1, k2, k3, ?_, hf2.trans k4 ?_⟩
  · rintro k (h | h | h)
    · exact .inl h
    · exact .inr (.inl h)
    · exact .inr (.inr (ht2 k h))
  · rintro k hk (h | h | h)
    · exact .inl h
    · exact .inr (.inl h)
    · exfalso
      rcases h with h | h | h | h | h
      · omega
      · cases h
      · cases h
      · cases h
      · cases h
end Go.Proofs.YtakaadcpaeiccabGreat

namespace Go.Proofs.YtakaadcpaeiccabGreat
open Go.RowKit Go.Maps

theorem newsP_bd {q own : Int} (hq : U32 q) (f : Int → Option Int) {A : List Rt} (hA : ∀ y ∈ A, y.Ok) : RBd (newsP q own f A).2 := by
  have h : ∀ (A : List Rt) (st : (Int → Option Int) × List (Bool × Int × Int)), (∀ y ∈ A, y.Ok) → RBd st.2 → RBd (A.foldl nwsS st).2 := by
    intro A
    induction A with
    | nil => intro st _ h; exact h
    | cons y A ih =>
      intro st hA h
      rw [List.foldl_cons]
      refine ih _ (fun z hz => hA z (List.mem_cons_of_mem _ hz)) ?_
      unfold nwsS
      split
      · intro z hz
        rcases List.mem_append.1 hz with hz | hz
        · exact h z hz
        · rw [List.mem_singleton] at hz
          subst hz
          have := hA y (List.mem_cons_self ..)
          have h1 := this.dest
          have h2 := this.seq
          unfold U32 at h1 h2
          dsimp only
          omega
      · exact h
  refine h A _ hA ?_
  unfold nwsO
  split
  · intro z hz
    rw [List.mem_singleton] at hz
    subst hz
    unfold U32 at hq
    dsimp only
    omega
  · intro z hz
    simp at hz
theorem RBd_append {a b : List (Bool × Int × Int)} (ha : RBd a) (hb : RBd b) : RBd (a ++ b) := fun x hx => (List.mem_append.1 hx).elim (ha x) (hb x)

@[reducible] def outZ : Obj := .cells #[.string ⟨#[]⟩, .bool false, .slice none 0 0, .slice none 0 0, .slice none 0 0] 52
/-- What a node has done in a call, as it comes out. -/
def outV (s : ByteArray) (rep : Bool) (frm cam drp : Value) : Value := .agg #[.string s, .bool rep, frm, cam, drp]

set_option maxRecDepth 100000 in
set_option maxHeartbeats 4000000 in
theorem finish_few (N B base : Nat) (x : NdV) (a : AcV) {M : Nat} {ff : Int → Option Nat} {gg : Int → Value} {A : List Rt} {f : Int → Option Int} {sz : Nat} (nws : List (Bool × Int × Int)) (frs cms : List (Int × ByteArray)) (drs : List Int) (w : World)
    (hn : NdM N x M ff gg A f sz w) (ha : AcM B base a nws frs cms drs w) (hbs : base ≤ w.heap.size) (hcnt : 0 ≤ x.cnt) (hc24 : x.cnt + (newsP x.seq x.own f A).2.length ≤ 24) (hsz : sz ≤ 1000000) (hnw : nws.length ≤ 90000) (hnb : RBd nws) (hq : U32 x.seq) :
    Calls Tryz.prog 48 #[.pointer (some ⟨N, 0, none⟩), .pointer (some ⟨B, 0, none⟩)] w fun e w' => ∃ sz', e = .returned (outV (strOfNums (flatR (nws ++ (newsP x.seq x.own f A).2))) a.rep a.frm a.cam a.drp) ∧ NdM N { x with own := mxO x.seq x.own, cnt := x.cnt + (newsP x.seq x.own f A).2.length } M ff gg A (newsP x.seq x.own f A).1 sz' w' ∧ sz' ≤ sz + 8 ∧ w'.ownsRow base 77 2 a.frm frs.length (FrC frs) ∧ w'.ownsRow base 56 2 a.cam cms.length (FrC cms) ∧ w'.ownsRow base 195 1 a.drp drs.length (DrC drs) ∧ Fx (fun k => k = N ∨ k = x.Mo ∨ AcIn B a k) w w' := by
  have hPl := newsP_len x.seq x.own f A
  have hA8 := hn.tb.len
  have hbd : RBd (nws ++ (newsP x.seq x.own f A).2) := RBd_append hnb (newsP_bd hq f hn.tb.ok)
  have hb0 : Below w.heap.size w (w.alloc outZ) := (Below.refl _ _).alloc (Nat.le_refl _) _
  have hC0 : (w.alloc outZ).heap[w.heap.size]? = some outZ := heap_alloc_new _ _
  have hs0 : (w.alloc outZ).heap.size = w.heap.size + 1 := by simp
  have HW := (show Hid _ from write_any N B base x a M ff gg A f sz nws frs cms drs (w.alloc outZ) (hn.later hb0) (ha.later hb0) (Nat.le_trans hbs hb0.size) (by omega) hsz hnw)
  have hal : ∀ k, AcIn B a k → k < w.heap.size := fun k hk => ha.lt hk
  have hNl := hn.nd.lt
  have hMl := hn.mo.lt
  dsimp only [outZ] at hb0 hC0 hs0 HW
  clear hn ha
  go_enter Tryz.func48, Tryz.ntmps48
  go_upto_region 1 with (fail)
  generalize World.alloc _ _ = W1 at hb0 hC0 hs0 HW ⊢
  go_wp2_with fail
  refine Calls.mono HW.out ?_
  rintro e w2 ⟨v7, sz', rfl, hn2, hs2, ha2, hf2⟩
  have hC2 : w2.heap[w.heap.size]? = some (.cells #[.string ⟨#[]⟩, .bool false, .slice none 0 0, .slice none 0 0, .slice none 0 0] 52) := (hf2.block _ (by omega) (by
    rintro (h | h | h)
    · omega
    · omega
    · have := hal _ h
      omega)).trans hC0
  have hz2 := hf2.size
  have hfx := (Fx.below (S := fun k => k = N ∨ k = x.Mo ∨ AcIn B a k) hb0).trans hf2 (fun _ _ h => h)
  clear HW hf2 hC0 hb0
  generalize hst : newsP x.seq x.own f A = st at hn2 ha2 hPl hc24 hbd
  have hst' := (show Hid _ from hst)
  clear hst
  obtain ⟨n0, n2, n3, n4, n5, n6, n7, n8, n9, n10⟩ := hn2.nd.cell
  obtain ⟨c0, c1, c2, c3, c4, c5, c6⟩ := ha2.blk.cell
  dsimp only at n0 n2 n3 n4 n5 n6 n7 n8 n9 n10 c0 c1 c2 c3 c4 c5 c6
  obtain ⟨a7, k7, hv7, hH7⟩ := row_form ha2.wrt
  dsimp only at hv7
  have hll : Hid ((nws ++ st.2).length = nws.length + st.2.length) := List.length_append
  generalize hnn : (nws ++ st.2).length = nn at hv7
  have hnn' := (show Hid _ from hnn)
  clear hnn
  subst hv7
  have hd24 : decide (24 < x.cnt + (st.2.length : Int)) = false := decide_eq_false (by omega)
  go_wp2_with fail
  refine Calls.mono (journalText_any a7 nn k7 (nws ++ st.2) hnn'.out (by rw [← hnn'.out, hll.out]; omega) hbd w2 hH7) ?_
  rintro e w3 ⟨rfl, hb3⟩
  have hn3 := hn2.later hb3
  have ha3 := ha2.later hb3
  have hC3 := (hb3.block _ (by omega : w.heap.size < w2.heap.size)).trans hC2
  have hz3 := hb3.size
  have hfx3 := hfx.trans (Fx.below (S := fun k => k = N ∨ k = x.Mo ∨ AcIn B a k) hb3) (fun _ _ h => h)
  generalize hss : strOfNums (flatR (nws ++ st.2)) = ss
  have hss' := (show Hid _ from hss)
  clear hss hn2 ha2 hC2 hfx n0 n2 n3 n4 n5 n6 n7 n8 n9 n10 c0 c1 c2 c3 c4 c5 c6 hH7
  obtain ⟨c0, c1, c2, c3, c4, c5, c6⟩ := ha3.blk.cell
  have g2 := ha3.blk.free 2
  have hBC : B ≠ w.heap.size := fun e => by have := hal B (.inl rfl); omega
  have hgB : w3.grownBy (w3.setCell ⟨B, 2, none⟩ (.string ss)) (some B) := grown_cellOf (grown_self _ (some B)) 2 _
  have hB4 := ha3.blk.setJrn ss
  have r1 := ha3.frm.kept hgB (.inr (row_not ha3.frm ha3.blk (fun c e => (by cases e))))
  have r2 := ha3.cam.kept hgB (.inr (row_not ha3.cam ha3.blk (fun c e => (by cases e))))
  have r3 := ha3.drp.kept hgB (.inr (row_not ha3.drp ha3.blk (fun c e => (by cases e))))
  have hn4 := hn3.kept (S := fun k => k = B) (Fx.grown hgB fun k e => by cases e; rfl) (fun k hk _ => by subst hk; exact ha3.offT (.inl rfl))
  have hC4 := (hgB.block w.heap.size (by omega) (fun e => hBC (by cases e; rfl))).trans hC3
  have hfx4 := grown_Fx hfx3 hgB (fun i _ e => by cases e; exact .inr (.inr (.inl rfl)))
  have hz4 := hgB.size
  clear hn3 ha3 hgB hfx3
  dsimp only at c0 c1 c2 c3 c4 c5 c6 r1 r2 r3
  go_upto_region 6 with (fail)
  generalize World.setCell _ _ _ = W4 at hB4 r1 r2 r3 hn4 hC4 hfx4 hz4 ⊢
  clear c0 c1 c2 c3 c4 c5 c6 g2
  obtain ⟨c0, c1, c2, c3, c4, c5, c6⟩ := hB4.cell
  dsimp only at c0 c1 c2 c3 c4 c5 c6
  obtain ⟨af, kf, hf, _⟩ := row_form r1
  obtain ⟨ac, kc, hc, _⟩ := row_form r2
  obtain ⟨ad, kd, hd, _⟩ := row_form r3
  rw [hf] at c4
  rw [hc] at c5
  rw [hd] at c6
  have q0 : W4.cell? ⟨w.heap.size, 0, none⟩ = some (.string ⟨#[]⟩) := cell_of_row _ _ 0 _ _ _ hC4
  have q1 : W4.cell? ⟨w.heap.size, 1, none⟩ = some (.bool false) := cell_of_row _ _ 1 _ _ _ hC4
  have q2 : W4.cell? ⟨w.heap.size, 2, none⟩ = some (.slice none 0 0) := cell_of_row _ _ 2 _ _ _ hC4
  have q3 : W4.cell? ⟨w.heap.size, 3, none⟩ = some (.slice none 0 0) := cell_of_row _ _ 3 _ _ _ hC4
  have q4 : W4.cell? ⟨w.heap.size, 4, none⟩ = some (.slice none 0 0) := cell_of_row _ _ 4 _ _ _ hC4
  have z0 := frozen_of_row W4 w.heap.size 0 _ _ hC4
  have z1 := frozen_of_row W4 w.heap.size 1 _ _ hC4
  have z2 := frozen_of_row W4 w.heap.size 2 _ _ hC4
  have z3 := frozen_of_row W4 w.heap.size 3 _ _ hC4
  have z4 := frozen_of_row W4 w.heap.size 4 _ _ hC4
  have hgC := grown_cellOf (grown_cellOf (grown_cellOf (grown_cellOf (grown_cellOf (grown_self W4 (some w.heap.size)) 0 (.string ss)) 1 (.bool a.rep)) 2 (.slice af frs.length kf)) 3 (.slice ac cms.length kc)) 4 (.slice ad drs.length kd)
  have hC5 : (((((W4.setCell ⟨w.heap.size, 0, none⟩ (.string ss)).setCell ⟨w.heap.size, 1, none⟩ (.bool a.rep)).setCell ⟨w.heap.size, 2, none⟩ (.slice af frs.length kf)).setCell ⟨w.heap.size, 3, none⟩ (.slice ac cms.length kc)).setCell ⟨w.heap.size, 4, none⟩ (.slice ad drs.length kd)).heap[w.heap.size]? = some (.cells #[.string ss, .bool a.rep, .slice af frs.length kf, .slice ac cms.length kc, .slice ad drs.length kd] 52) := by
    simp [World.setCell, Array.getElem?_modify, hC4]
  have t1 := r1.kept hgC (.inr (row_not r1 hC4 (fun c e => (by cases e))))
  have t2 := r2.kept hgC (.inr (row_not r2 hC4 (fun c e => (by cases e))))
  have t3 := r3.kept hgC (.inr (row_not r3 hC4 (fun c e => (by cases e))))
  have hn5 := hn4.kept (S := fun k => k = w.heap.size) (Fx.grown hgC fun k e => by cases e; rfl) (fun k hk _ => by
    subst hk
    exact ⟨_, hC4, ⟨fun c e => (by cases e), fun c e => (by cases e), fun c e => (by cases e)⟩, fun c e => (by cases e), fun c d e => (by cases e)⟩)
  have hfx5 := grown_Fx hfx4 hgC (fun i hi e => by cases e; omega)
  clear hn4 hfx4 hgC r1 r2 r3
  go_wp2
  generalize World.setCell _ _ _ = W5 at hC5 t1 t2 t3 hn5 hfx5 ⊢
  have p0 : W5.cell? ⟨w.heap.size, 0, none⟩ = some (.string ss) := cell_of_row _ _ 0 _ _ _ hC5
  have p1 : W5.cell? ⟨w.heap.size, 1, none⟩ = some (.bool a.rep) := cell_of_row _ _ 1 _ _ _ hC5
  have p2 : W5.cell? ⟨w.heap.size, 2, none⟩ = some (.slice af frs.length kf) := cell_of_row _ _ 2 _ _ _ hC5
  have p3 : W5.cell? ⟨w.heap.size, 3, none⟩ = some (.slice ac cms.length kc) := cell_of_row _ _ 3 _ _ _ hC5
  have p4 : W5.cell? ⟨w.heap.size, 4, none⟩ = some (.slice ad drs.length kd) := cell_of_row _ _ 4 _ _ _ hC5
  refine bodyPost_ret (v := .agg #[.string ss, .bool a.rep, .slice af frs.length kf, .slice ac cms.length kc, .slice ad drs.length kd]) (by simp [results, Tryz.results48, go_sem, p0, p1, p2, p3, p4]) rfl ⟨sz', ?_, ?_, hs2, t1, t2, t3, hfx5⟩
  · rw [hst'.out, hss'.out, hf, hc, hd]
    rfl
  · rw [hst'.out]
    exact hn5
end Go.Proofs.YtakaadcpaeiccabGreat

namespace Go.Proofs.YtakaadcpaeiccabGreat
open Go.RowKit Go.Maps

theorem AcM.ge {B : Nat} {a : AcV} {nws : List (Bool × Int × Int)} {frs cms : List (Int × ByteArray)} {drs : List Int} {W : World} (h : AcM B (B + 1) a nws frs cms drs W) {k : Nat} (hk : AcIn B a k) : B ≤ k := by
  rcases hk with rfl | hk | hk | hk | hk
  · exact Nat.le_refl _
  · exact Nat.le_of_succ_le (h.wrt.lt k hk).1
  · exact Nat.le_of_succ_le (h.frm.lt k hk).1
  · exact Nat.le_of_succ_le (h.cam.lt k hk).1
  · exact Nat.le_of_succ_le (h.drp.lt k hk).1
theorem pk_offA (p : Pkt) : offA p.box := ⟨fun c e => (by cases e), fun c e => (by cases e), fun c e => (by cases e), fun c e => (by cases e), fun c e => (by cases e)⟩
theorem NdM.act {N : Nat} {x : NdV} {M : Nat} {ff : Int → Option Nat} {gg : Int → Value} {A : List Rt} {f : Int → Option Int} {sz : Nat} {W W' : World} (h : NdM N x M ff gg A f sz W) {B base : Nat} {a : AcV} {nws : List (Bool × Int × Int)} {frs cms : List (Int × ByteArray)} {drs : List Int} (ha : AcM B base a nws frs cms drs W) (hf : Fx (AcIn B a) W W') : NdM N x M ff gg A f sz W' :=
  h.kept hf fun _ hk _ => ha.offT hk
/-- A node in silence turns its own cell. -/
theorem NdM.setSil {N : Nat} {x : NdV} {M : Nat} {ff : Int → Option Nat} {gg : Int → Value} {A : List Rt} {f : Int → Option Int} {sz : Nat} {W : World} (h : NdM N x M ff gg A f sz W) (v : Int) : NdM N { x with sil := v } M ff gg A f sz (W.setCell ⟨N, 4, none⟩ (.int .u64 v)) ∧ W.grownBy (W.setCell ⟨N, 4, none⟩ (.int .u64 v)) (some N) := by
  have hg : W.grownBy (W.setCell ⟨N, 4, none⟩ (.int .u64 v)) (some N) := grown_cellOf (grown_self _ (some N)) 4 _
  refine ⟨⟨h.nd.setSil v, h.mo.kept hg (by simpa using Ne.symm (nd_mo h.nd h.mo)), h.tb.keptFx (S := fun k => k = N) (Fx.grown hg fun k e => by cases e; rfl) ?_, h.ne⟩, hg⟩
  rintro k rfl _
  refine ⟨fun e => ?_, _, h.nd, nd_offT x⟩
  obtain ⟨D, ⟨es, cl, hm, _⟩, _⟩ := h.tb.map
  rw [← e, show W.heap[k]? = _ from h.nd] at hm
  cases hm
def isTold (x : NdV) (p : Pkt) : Bool := (p.kind == 9) && (p.dest != x.self)
def silS (x : NdV) (now : Int) (p : Pkt) : NdV := if isTold x p then { x with sil := now + 2000 } else x
def silF (x : NdV) (A : List Rt) (fr : Int) (p : Pkt) : List (Int × ByteArray) := if isTold x p then [(fr, lsB [(p.dest, numL A p.dest)])] else []

set_option maxRecDepth 100000 in
set_option maxHeartbeats 4000000 in
theorem hearSilent_any (N B : Nat) (x : NdV) (a : AcV) {M : Nat} {ff : Int → Option Nat} {gg : Int → Value} {A : List Rt} {f : Int → Option Int} {sz : Nat} (nws : List (Bool × Int × Int)) (frs cms : List (Int × ByteArray)) (drs : List Int) (fr : Int) (p : Pkt) (hp : p.Wf) (w : World)
    (hn : NdM N x M ff gg A f sz w) (ha : AcM B (B + 1) a nws frs cms drs w) (hfl : frs.length ≤ 1000000) (hdl : drs.length ≤ 1000000) (hnow : 0 ≤ a.now ∧ a.now ≤ 4611686018427387904) (_hNB : N < B) :
    Calls Tryz.prog 93 #[.pointer (some ⟨N, 0, none⟩), .pointer (some ⟨B, 0, none⟩), .int .u32 fr, p.val] w fun e w' => ∃ a', e = .returned (.tuple #[]) ∧ a'.rep = a.rep ∧ NdM N (silS x a.now p) M ff gg A f sz w' ∧ AcM B (B + 1) a' nws (frs ++ silF x A fr p) cms (drs ++ [8]) w' ∧ Fx (fun k => k = N ∨ B ≤ k) w w' := by
  have hbs : B + 1 ≤ w.heap.size := ha.blk.lt
  have hb0 : Below w.heap.size w (w.alloc p.box) := (Below.refl _ _).alloc (Nat.le_refl _) _
  have hP0 := PB.new p w
  have ha0 := ha.later hb0
  have hn0 := hn.later hb0
  have hCb : B ≤ w.heap.size := by omega
  have HD := (show Hid _ from drop_any B (B + 1) a nws frs cms drs 8 (w.alloc p.box) ha0 (Nat.le_trans hbs hb0.size) hdl)
  dsimp only [Pkt.box] at hb0 ha0 hn0 HD
  unfold PB at hP0
  dsimp only [Pkt.box] at hP0
  go_enter Tryz.func93, Tryz.ntmps93
  go_upto_region 1 with (fail)
  generalize World.alloc _ _ = W1 at hb0 hP0 ha0 hn0 HD ⊢
  generalize w.heap.size = C at hP0 hCb ⊢
  go_wp2_with fail
  refine Calls.mono HD.out ?_
  rintro e w2 ⟨v2, rfl, ha2, hf2⟩
  have hP2 : PB p C w2 := (hf2.block _ (PB.lt hP0) (ha0.not hP0 (pk_offA p))).trans hP0
  have hn2 := hn0.act ha0 hf2
  have hfa : Fx (fun k => k = N ∨ B ≤ k) w w2 := (Fx.below hb0).trans hf2 (fun i hi h => .inr (ha0.ge h))
  clear HD hP0 hn0 hf2 hb0
  have hP2' := hP2
  obtain ⟨p0, p1, p2, p3, p4, p5, p6, p7, p8, p9, p10, p11⟩ := PB.cell hP2
  obtain ⟨n0, n2, n3, n4, n5, n6, n7, n8, n9, n10⟩ := hn2.nd.cell
  have hq : Hid (∀ q, NdM N x M ff gg A f sz (w2.drewN q) ∧ AcM B (B + 1) { a with drp := v2 } nws frs cms (drs ++ [8]) (w2.drewN q) ∧ Fx (fun k => k = N ∨ B ≤ k) w (w2.drewN q) ∧ PB p C (w2.drewN q)) := by
    intro q
    have hbq : Below w2.heap.size w2 (w2.drewN q) := below_drewN (Below.refl _ _) q
    exact ⟨hn2.later hbq, ha2.later hbq, hfa.trans (Fx.below (S := fun k => k = N ∨ B ≤ k) hbq) (fun _ _ h => h), hP2.below hbq⟩
  have hno : Hid (isTold x p = false → ∀ q, ∃ a', a'.rep = a.rep ∧ NdM N (silS x a.now p) M ff gg A f sz (w2.drewN q) ∧ AcM B (B + 1) a' nws (frs ++ silF x A fr p) cms (drs ++ [8]) (w2.drewN q) ∧ Fx (fun k => k = N ∨ B ≤ k) w (w2.drewN q)) := by
    intro hno q
    have e1 : silS x a.now p = x := by simp [silS, hno]
    have e2 : silF x A fr p = [] := by simp [silF, hno]
    rw [e1, e2, List.append_nil]
    obtain ⟨k1, k2, k3, _⟩ := hq.out q
    exact ⟨{ a with drp := v2 }, rfl, k1, k2, k3⟩
  clear hn2 ha2 hfa
  by_cases hk : p.kind = 9
  · have hkb : (p.kind == 9) = true := by simpa using hk
    by_cases hd : p.dest = x.self
    · have hdb : (p.dest != x.self) = false := by simp [hd]
      have hX := (show Hid _ from hno.out (by simp [isTold, hdb]))
      clear hd hk hq hno
      go_wp2_with fail
      go_quiet (fail)
      go_wp2
      go_returns
      obtain ⟨a', k1, k2, k3, k4⟩ := hX.out _
      exact ⟨a', rfl, k1, k2, k3, k4⟩
    · have hdb : (p.dest != x.self) = true := by simpa using hd
      have hyes : isTold x p = true := by simp [isTold, hkb, hdb]
      clear hd hk hno
      go_wp2_with fail
      go_quiet (fail)
      generalize hg : World.drewN _ _ = w3
      obtain ⟨k1, k2, k3, k4⟩ := (show ∀ q w3, w2.drewN q = w3 → _ from fun q w3 h => h ▸ hq.out q) _ _ hg
      clear hg hq p0 p1 p2 p3 p4 p5 p6 p7 p8 p9 p10 p11 n0 n2 n3 n4 n5 n6 n7 n8 n9 n10
      obtain ⟨p0, p1, p2, p3, p4, p5, p6, p7, p8, p9, p10, p11⟩ := PB.cell k4
      go_wp2_with fail
      have hb3 := k2.blk.lt
      refine Calls.mono (loseOne_any N B (B + 1) x _ nws frs cms (drs ++ [8]) fr p.dest ⟨hp.dest0, by have := hp.dest1; omega⟩ w3 k1 k2 hb3 hfl) ?_
      rintro e w4 ⟨v4, rfl, ha4, hf4⟩
      have hn4 := k1.act k2 hf4
      have hfx4 := k3.trans hf4 (fun i _ h => .inr (k2.ge h))
      obtain ⟨hn5, hg5⟩ := hn4.setSil (a.now + 2000)
      have ha5 := ha4.kept (W' := w4.setCell ⟨N, 4, none⟩ (.int .u64 (a.now + 2000))) (fun k hk => hg5.block k (ha4.lt hk) (fun e => ha4.not hn4.nd (nd_offA x) (by cases e; exact hk)))
      have hfx5 := grown_Fx hfx4 hg5 (fun i _ e => by cases e; exact .inl rfl)
      obtain ⟨c0, c1, c2, c3, c4, c5, c6⟩ := ha4.blk.cell
      obtain ⟨n0, n2, n3, n4, n5, n6, n7, n8, n9, n10⟩ := hn4.nd.cell
      have g4 := hn4.nd.free 4
      have e1 : Hid (silS x a.now p = { x with sil := a.now + 2000 }) := by
        show _ = _
        simp [silS, hyes]
      have e2 : Hid (silF x A fr p = [(fr, lsB [(p.dest, numL A p.dest)])]) := by
        show _ = _
        simp [silF, hyes]
      dsimp only at c0
      clear k1 k2 k3 k4 hf4 hfx4 hg5 hn4 ha4 hyes
      go_wp2
      go_returns
      rw [e1.out, e2.out]
      exact ⟨{ a with frm := v4, drp := v2 }, rfl, rfl, hn5, ha5, hfx5⟩
  · have hkb : (p.kind == 9) = false := by simpa using hk
    have hX := (show Hid _ from hno.out (by simp [isTold, hkb]))
    clear hk hq hno
    go_wp2_with fail
    go_quiet (fail)
    go_wp2
    go_returns
    obtain ⟨a', k1, k2, k3, k4⟩ := hX.out _
    exact ⟨a', rfl, k1, k2, k3, k4⟩
end Go.Proofs.YtakaadcpaeiccabGreat

namespace Go.Proofs.YtakaadcpaeiccabGreat
open Go.RowKit Go.Maps

/-- What a silent node does with bytes: it drops them, as none or silently; of data for another it tells that there is no route. -/
def SilP (x : NdV) (A : List Rt) (now fr : Int) (xs : List Int) (x' : NdV) (fs : List (Int × ByteArray)) (r : Int) : Prop :=
  (isF xs = false ∧ x' = x ∧ fs = [] ∧ r = 0) ∨ (isF xs = true ∧ ∃ p : Pkt, p.Wf ∧ x' = silS x now p ∧ fs = silF x A fr p ∧ r = 8)

set_option maxRecDepth 100000 in
set_option maxHeartbeats 4000000 in
theorem hear_silent (N B : Nat) (x : NdV) (a : AcV) {M : Nat} {ff : Int → Option Nat} {gg : Int → Value} {A : List Rt} {f : Int → Option Int} {sz : Nat} (nws : List (Bool × Int × Int)) (frs cms : List (Int × ByteArray)) (drs : List Int) (fr : Int) (v : Value) (xs : List Int) (w : World)
    (hv : RestV w v xs) (hn : NdM N x M ff gg A f sz w) (ha : AcM B (B + 1) a nws frs cms drs w) (hfl : frs.length ≤ 1000000) (hdl : drs.length ≤ 1000000) (hnow : 0 ≤ a.now ∧ a.now ≤ 4611686018427387904) (hNB : N < B) (hsil : a.now < x.sil) (hf0 : fr ≠ 0) (hf1 : fr ≠ x.self) :
    Calls Tryz.prog 59 #[.pointer (some ⟨N, 0, none⟩), .pointer (some ⟨B, 0, none⟩), .int .u32 fr, v] w fun e w' => ∃ a' x' fs r, e = .returned (.tuple #[]) ∧ SilP x A a.now fr xs x' fs r ∧ a'.rep = a.rep ∧ NdM N x' M ff gg A f sz w' ∧ AcM B (B + 1) a' nws (frs ++ fs) cms (drs ++ [r]) w' ∧ Fx (fun k => k = N ∨ B ≤ k) w w' := by
  have hbs : B + 1 ≤ w.heap.size := ha.blk.lt
  have hby := hv.1
  have b0 : (fr == 0) = false := by simpa using hf0
  have b1 : (fr == x.self) = false := by simpa using hf1
  have HD := (show Hid _ from Decode_any v xs w hv)
  clear hv
  go_enter Tryz.func59, Tryz.ntmps59
  go_wp2_with fail
  refine Calls.mono HD.out ?_
  rintro e w1 ⟨hb1, h⟩
  have hn1 := hn.later hb1
  have ha1 := ha.later hb1
  have hz1 := hb1.size
  have hfx1 : Fx (fun k => k = N ∨ B ≤ k) w w1 := Fx.below hb1
  clear HD hn ha hb1
  rcases h with ⟨hF, v1, rfl, x0, x1, x2, x3, x4, r, ao, c, hxs, hv1, _⟩ | ⟨hF, rfl⟩
  · have hpw : ({ pkOf x0 x1 x2 x4 r with la := ao, lc := c } : Pkt).Wf := by
      subst hxs
      have h1 := pkOf_wf (x2 := x2) (fun y hy => hby y (by simp [hy])) (hby x0 (by simp)) (hby x1 (by simp)) (hby x4 (by simp)) (r := r)
      exact ⟨h1.1, h1.2, h1.3, h1.4, h1.5, h1.6, h1.7, h1.8, h1.9, h1.10, h1.11, h1.12, h1.13, h1.14, h1.15, h1.16, h1.17, h1.18, h1.19, h1.20⟩
    generalize ({ pkOf x0 x1 x2 x4 r with la := ao, lc := c } : Pkt) = p at hv1 hpw
    subst hv1
    clear hxs hby
    have hb2 : Below w1.heap.size w1 (w1.alloc p.box) := (Below.refl _ _).alloc (Nat.le_refl _) _
    have hP2 := PB.new p w1
    have hn2 := hn1.later hb2
    have ha2 := ha1.later hb2
    have hfx2 := hfx1.trans (Fx.below (S := fun k => k = N ∨ B ≤ k) hb2) (fun _ _ h => h)
    clear hn1 ha1 hfx1
    dsimp only [Pkt.box] at hb2 hn2 ha2 hfx2
    unfold PB at hP2
    dsimp only [Pkt.box] at hP2
    dsimp only [Pkt.val]
    go_upto_region 2 with (fail)
    generalize World.alloc _ _ = W2 at hb2 hP2 hn2 ha2 hfx2 ⊢
    generalize w1.heap.size = C at hP2 ⊢
    obtain ⟨n0, n2, n3, n4, n5, n6, n7, n8, n9, n10⟩ := hn2.nd.cell
    obtain ⟨c0, c1, c2, c3, c4, c5, c6⟩ := ha2.blk.cell
    go_wp2_with fail
    go_quiet (fail)
    generalize hg : World.drewN _ _ = W3
    obtain ⟨k1, k2, k3, k4⟩ := (show ∀ q w3, W2.drewN q = w3 → NdM N x M ff gg A f sz w3 ∧ AcM B (B + 1) a nws frs cms drs w3 ∧ Fx (fun k => k = N ∨ B ≤ k) w w3 ∧ PB p C w3 from by
      rintro q _ rfl
      have hbq : Below W2.heap.size W2 (W2.drewN q) := below_drewN (Below.refl _ _) q
      exact ⟨hn2.later hbq, ha2.later hbq, hfx2.trans (Fx.below (S := fun k => k = N ∨ B ≤ k) hbq) (fun _ _ h => h), PB.below hP2 hbq⟩) _ _ hg
    clear hg hn2 ha2 hfx2 hP2 hb2 n0 n2 n3 n4 n5 n6 n7 n8 n9 n10 c0 c1 c2 c3 c4 c5 c6
    obtain ⟨p0, p1, p2, p3, p4, p5, p6, p7, p8, p9, p10, p11⟩ := PB.cell k4
    have HS := (show Hid _ from hearSilent_any N B x a nws frs cms drs fr p hpw W3 k1 k2 hfl hdl hnow hNB)
    dsimp only [Pkt.val] at HS
    go_wp2_with fail
    refine Calls.mono HS.out ?_
    rintro e w4 ⟨a', rfl, h1, h2, h3, h4⟩
    clear HS k1 k2 k4 p0 p1 p2 p3 p4 p5 p6 p7 p8 p9 p10 p11
    go_wp2
    go_returns
    exact ⟨a', silS x a.now p, silF x A fr p, 8, rfl, .inr ⟨hF, p, hpw, rfl, rfl, rfl⟩, h1, h2, h3, k3.trans h4 (fun _ _ h => h)⟩
  · have hb2 : Below w1.heap.size w1 (w1.alloc Pkt.zero.box) := (Below.refl _ _).alloc (Nat.le_refl _) _
    have ha2 := ha1.later hb2
    have hn2 := hn1.later hb2
    have hfx2 := hfx1.trans (Fx.below (S := fun k => k = N ∨ B ≤ k) hb2) (fun _ _ h => h)
    have HD := (show Hid _ from drop_any B (B + 1) a nws frs cms drs 0 (w1.alloc Pkt.zero.box) ha2 (Nat.le_trans hbs (Nat.le_trans hz1 hb2.size)) hdl)
    clear hn1 ha1 hfx1 hb2
    dsimp only [Pkt.box, Pkt.zero] at ha2 hn2 hfx2 HD
    dsimp only [Pkt.val, Pkt.zero]
    go_upto_region 3 with (fail)
    generalize World.alloc _ _ = W2 at hn2 ha2 hfx2 HD ⊢
    go_wp2_with fail
    refine Calls.mono HD.out ?_
    rintro e w4 ⟨v7, rfl, h1, h2⟩
    have hn4 := hn2.act ha2 h2
    have hfx4 := hfx2.trans h2 (fun i _ h => .inr (ha2.ge h))
    clear HD hn2 hfx2
    go_wp2
    go_returns
    exact ⟨{ a with drp := v7 }, x, [], 0, rfl, .inl ⟨hF, rfl, rfl, rfl⟩, rfl, hn4, by rw [List.append_nil]; exact h1, hfx4⟩
end Go.Proofs.YtakaadcpaeiccabGreat

namespace Go.Proofs.YtakaadcpaeiccabGreat
open Go.RowKit Go.Maps Go.MuLone

theorem NdM.setLk {N : Nat} {x : NdV} {M : Nat} {ff : Int → Option Nat} {gg : Int → Value} {A : List Rt} {f : Int → Option Int} {sz : Nat} {W : World} (h : NdM N x M ff gg A f sz W) (v : Int) : NdM N { x with lk := v } M ff gg A f sz (W.setCell ⟨N, 0, none⟩ (.int .i32 v)) ∧ W.grownBy (W.setCell ⟨N, 0, none⟩ (.int .i32 v)) (some N) := by
  have hg : W.grownBy (W.setCell ⟨N, 0, none⟩ (.int .i32 v)) (some N) := grown_cellOf (grown_self _ (some N)) 0 _
  refine ⟨⟨h.nd.setLk v, h.mo.kept hg (by simpa using Ne.symm (nd_mo h.nd h.mo)), h.tb.keptFx (S := fun k => k = N) (Fx.grown hg fun k e => by cases e; rfl) ?_, h.ne⟩, hg⟩
  rintro k rfl _
  refine ⟨fun e => ?_, _, h.nd, nd_offT x⟩
  obtain ⟨D, ⟨es, cl, hm, _⟩, _⟩ := h.tb.map
  rw [← e, show W.heap[k]? = _ from h.nd] at hm
  cases hm
theorem silS_same (x : NdV) (now : Int) (p : Pkt) : (silS x now p).self = x.self ∧ (silS x now p).seq = x.seq ∧ (silS x now p).own = x.own ∧ (silS x now p).T = x.T ∧ (silS x now p).Mo = x.Mo ∧ (silS x now p).cnt = x.cnt ∧ (silS x now p).lk = x.lk := by
  unfold silS
  split <;> exact ⟨rfl, rfl, rfl, rfl, rfl, rfl, rfl⟩
theorem SilP.same {x : NdV} {A : List Rt} {now fr : Int} {xs : List Int} {x' : NdV} {fs : List (Int × ByteArray)} {r : Int} (h : SilP x A now fr xs x' fs r) : x'.self = x.self ∧ x'.seq = x.seq ∧ x'.own = x.own ∧ x'.T = x.T ∧ x'.Mo = x.Mo ∧ x'.cnt = x.cnt ∧ x'.lk = x.lk := by
  rcases h with ⟨_, rfl, _⟩ | ⟨_, p, _, rfl, _⟩
  · exact ⟨rfl, rfl, rfl, rfl, rfl, rfl, rfl⟩
  · exact silS_same x now p
theorem SilP.lk {x : NdV} {A : List Rt} {now fr : Int} {xs : List Int} {x' : NdV} {fs : List (Int × ByteArray)} {r : Int} (h : SilP { x with lk := 1 } A now fr xs x' fs r) : SilP x A now fr xs { x' with lk := x.lk } fs r := by
  rcases h with ⟨h1, rfl, h2, h3⟩ | ⟨h1, p, hp, rfl, h2, h3⟩
  · exact .inl ⟨h1, rfl, h2, h3⟩
  · refine .inr ⟨h1, p, hp, ?_, h2, h3⟩
    unfold silS
    have hi : isTold { x with lk := 1 } p = isTold x p := rfl
    rw [hi]
    cases isTold x p <;> rfl
/-- Bytes, and the block that they lie in. -/
def VB (W : World) (v : Value) (xs : List Int) : Prop := RestV W v xs ∧ ∀ b o n c, v = .slice (some ⟨b, o, none⟩) n c → ∃ cs mk, W.heap[b]? = some (.cells cs 5 mk)
theorem VB.at {W W' : World} {v : Value} {xs : List Int} (h : VB W v xs) (he : ∀ b o n c, v = .slice (some ⟨b, o, none⟩) n c → W'.heap[b]? = W.heap[b]?) : VB W' v xs := by
  obtain ⟨⟨hb, h1⟩, h2⟩ := h
  refine ⟨⟨hb, ?_⟩, fun b o n c hv => ?_⟩
  · rcases h1 with h1 | ⟨b, o, c, rfl, k1, k2, k3⟩
    · exact .inl h1
    · exact .inr ⟨b, o, c, rfl, k1, k2, fun j x hx => (World.cell?_of_block (a := ⟨b, o + j, none⟩) (he b o _ c rfl)).trans (k3 j x hx)⟩
  · obtain ⟨cs, mk, h⟩ := h2 b o n c hv
    exact ⟨cs, mk, (he b o n c hv).trans h⟩
theorem VB.later {W W' : World} {v : Value} {xs : List Int} (h : VB W v xs) (hb : Below W.heap.size W W') : VB W' v xs :=
  h.at fun b o n c hv => by
    obtain ⟨cs, mk, h⟩ := h.2 b o n c hv
    exact hb.block b (Array.getElem?_eq_some_iff.1 h).1
theorem NdM.vb {N : Nat} {x : NdV} {M : Nat} {ff : Int → Option Nat} {gg : Int → Value} {A : List Rt} {f : Int → Option Int} {sz : Nat} {W W' : World} (h : NdM N x M ff gg A f sz W) {v : Value} {xs : List Int} (hr : VB W v xs) (hf : Fx (NdIn N x M ff gg A) W W') : VB W' v xs := by
  refine hr.at fun b o n c hv => ?_
  obtain ⟨cs, mk, hc⟩ := hr.2 b o n c hv
  refine hf.block b (Array.getElem?_eq_some_iff.1 hc).1 ?_
  rintro (rfl | rfl | hT)
  · rw [show W.heap[b]? = _ from h.nd] at hc
    cases hc
  · obtain ⟨es, cl, hm⟩ := h.mo.obj
    rw [hm] at hc
    cases hc
  · refine h.tb.not (fun e => ?_) hc ⟨fun c e => (by cases e), fun c e => (by cases e), fun c e => (by cases e)⟩ hT
    obtain ⟨D, ⟨es, cl, hm, _⟩, _⟩ := h.tb.map
    rw [← e, hc] at hm
    cases hm

set_option maxRecDepth 100000 in
set_option maxHeartbeats 4000000 in
theorem Receive_silent (N : Nat) (x : NdV) {M : Nat} {ff : Int → Option Nat} {gg : Int → Value} {A : List Rt} {f : Int → Option Int} {sz : Nat} (now fr : Int) (v : Value) (xs : List Int) (w : World)
    (hr : VB w v xs) (hn : NdM N x M ff gg A f sz w) (hlk : x.lk = 0) (hE : expL A now = A) (hN0 : newsP x.seq x.own f A = (f, [])) (hO : mxO x.seq x.own = x.own) (hq : U32 x.seq) (hcnt : 0 ≤ x.cnt) (hc24 : x.cnt ≤ 24) (hsz : sz ≤ 900000)
    (hnow : 0 ≤ now ∧ now ≤ 4611686018427387904) (hsil : now < x.sil) (hf0 : fr ≠ 0) (hf1 : fr ≠ x.self) :
    Calls Tryz.prog 25 #[.pointer (some ⟨N, 0, none⟩), .int .u64 now, .int .u32 fr, v] w fun e w' => ∃ x' fs r af kf ac kc ad kd gg' sz', e = .returned (outV ⟨#[]⟩ false (.slice af fs.length kf) (.slice ac 0 kc) (.slice ad 1 kd)) ∧ SilP x A now fr xs x' fs r ∧ NdM N x' M ff gg' A f sz' w' ∧ sz' ≤ sz + 16 ∧ w'.ownsRow w.heap.size 77 2 (.slice af fs.length kf) fs.length (FrC fs) ∧ (∀ k, NdIn N x' M ff gg' A k → NdIn N x M ff gg A k) ∧ Fx (NdIn N x M ff gg A) w w' := by
  have hb0 : Below w.heap.size w (w.alloc outZ) := (Below.refl _ _).alloc (Nat.le_refl _) _
  have hC0 : (w.alloc outZ).heap[w.heap.size]? = some outZ := heap_alloc_new _ _
  have hs0 : (w.alloc outZ).heap.size = w.heap.size + 1 := by simp
  have hn0 := hn.later hb0
  have hr0 := hr.later hb0
  dsimp only [outZ] at hb0 hC0 hs0 hn0 hr0
  go_enter_defers Tryz.func25, Tryz.ntmps25
  go_upto_region 1 with (fail)
  generalize World.alloc _ _ = W1 at hb0 hC0 hs0 hn0 hr0 ⊢
  have c0 := hn0.nd.cell.1
  rw [hlk] at c0
  have g0 := hn0.nd.free 0
  go_wp2_with fail
  refine Calls.mono (lock_free muLib ⟨N, 0, none⟩ W1 c0 g0) ?_
  rintro e w2 ⟨rfl, rfl⟩
  obtain ⟨hn2, hg2⟩ := hn0.setLk 1
  have hNl := hn.nd.lt
  have hlt : ∀ k, NdIn N x M ff gg A k → k < w.heap.size := by
    rintro k (rfl | rfl | hk)
    · exact hn.nd.lt
    · exact hn.mo.lt
    · exact hn.tb.lt hk
  have hf2 : Fx (NdIn N x M ff gg A) w (W1.setCell ⟨N, 0, none⟩ (.int .i32 1)) := grown_Fx (Fx.below hb0) hg2 (fun i _ e => by cases e; exact .inl rfl)
  have hr2 := hn0.vb hr0 (Fx.grown hg2 (fun k e => by cases e; exact .inl rfl))
  have hC2 := (hg2.block w.heap.size (by omega) (fun e => by cases e; omega)).trans hC0
  have hs2 : w.heap.size + 1 ≤ (W1.setCell ⟨N, 0, none⟩ (.int .i32 1)).heap.size := by
    have := hg2.size
    omega
  clear hn0 hr0 hC0 hs0 hb0 c0 g0 hg2
  generalize World.setCell _ _ _ = W2 at hn2 hf2 hr2 hC2 hs2 ⊢
  go_wp2_with fail
  refine Calls.mono (begin_any N { x with lk := 1 } now W2 hn2 ⟨hcnt, by dsimp only; omega⟩ (by omega)) ?_
  rintro e w3 ⟨gg', v7, sz', rfl, k1, k2, k3, k4, k5⟩
  have k1' : NdM N { x with lk := 1 } M ff gg' A f sz' w3 := by
    simpa [hE, hN0, hO] using k1
  have k3' : AcM W2.heap.size (W2.heap.size + 1) { acZ now with wrt := v7 } [] [] [] [] w3 := by
    simpa [hE, hN0] using k3
  rw [hE] at k4
  have hr3 := hn2.vb hr2 k5
  have hC3 := (k5.block w.heap.size (by omega) (fun h => by have := hlt _ h; omega)).trans hC2
  have hf3 := hf2.trans k5 (fun i _ h => h)
  have hs3 := k5.size
  have hrest := hr3.1
  clear k1 k3 k5 hr2 hr3 hC2 hn2 hf2
  go_wp2_with fail
  have hNB : N < W2.heap.size := by omega
  have hz : ([] : List (Int × ByteArray)).length ≤ 1000000 := by simp
  have hz' : ([] : List Int).length ≤ 1000000 := by simp
  generalize haz : ({ acZ now with wrt := v7 } : AcV) = az at k3'
  have hazn : az.now = now := by subst haz; rfl
  have hazr : az.rep = false := by subst haz; rfl
  have hnow' : 0 ≤ az.now ∧ az.now ≤ 4611686018427387904 := by rw [hazn]; exact hnow
  have hsil' : az.now < ({ x with lk := 1 } : NdV).sil := by rw [hazn]; exact hsil
  have HH := hear_silent N W2.heap.size { x with lk := 1 } az [] [] [] [] fr v xs w3 hrest k1' k3' hz hz' hnow' hNB hsil' hf0 hf1
  rw [hazn, hazr] at HH
  clear haz hazn hazr hnow' hsil' hz hz'
  refine Calls.mono HH ?_
  rintro e w4 ⟨a', x', fs, r, rfl, hS, hrep, l1, l2, l3⟩
  have hC4 := (l3.block w.heap.size (by omega) (by omega)).trans hC3
  have hf4 : Fx (NdIn N x M ff gg A) w w4 := hf3.trans l3 (fun i hi h => by
    rcases h with rfl | h
    · exact .inl rfl
    · omega)
  have hs4 := l3.size
  obtain ⟨q1, q2, q3, q4, q5, q6, q7⟩ := hS.same
  dsimp only at q1 q2 q3 q4 q5 q6 q7
  have hN1 : newsP x'.seq x'.own f A = (f, []) := by rw [q2, q3]; exact hN0
  have hO1 : mxO x'.seq x'.own = x'.own := by rw [q2, q3]; exact hO
  have hfl : fs.length ≤ 1 := by
    rcases hS with ⟨_, _, rfl, _⟩ | ⟨_, p, _, _, rfl, _⟩
    · simp
    · unfold silF
      split <;> simp
  clear k1' k3' hrest hf3 l3 hC3
  simp only [List.nil_append] at l2
  go_wp2_with fail
  refine Calls.mono (finish_few N W2.heap.size (W2.heap.size + 1) x' a' [] fs [] [r] w4 l1 l2 l2.blk.lt (by rw [q6]; exact hcnt) (by rw [hN1, q6]; simpa using hc24) (by omega) (by simp) (fun _ h => by simp at h) (by rw [q2]; exact hq)) ?_
  rintro e w5 ⟨sz2, rfl, m1, m2, m3, m4, m5, m6⟩
  have m1' : NdM N x' M ff gg' A f sz2 w5 := by
    have e1 : ({ x' with own := mxO x'.seq x'.own, cnt := x'.cnt + ((newsP x'.seq x'.own f A).2.length : Int) } : NdV) = x' := by
      rw [hO1, hN1]
      simp
    rw [e1] at m1
    simpa [hN1] using m1
  have hMl := hn.mo.lt
  have hC5 := (m6.block w.heap.size (by omega) (by
    rintro (h | h | h)
    · omega
    · rw [q5] at h
      omega
    · have := l2.ge h
      omega)).trans hC4
  have hf5 : Fx (NdIn N x M ff gg A) w w5 := hf4.trans m6 (fun i hi h => by
    rcases h with rfl | rfl | h
    · exact .inl rfl
    · exact .inr (.inl q5)
    · have := l2.ge h
      omega)
  have hs5 := m6.size
  have hjr : strOfNums (flatR ([] ++ (newsP x'.seq x'.own f A).2)) = ⟨#[]⟩ := by
    rw [hN1]
    rfl
  rw [hjr, hrep]
  obtain ⟨af, kf, hff, _⟩ := row_form m3
  obtain ⟨ac, kc, hcc, _⟩ := row_form m4
  obtain ⟨ad, kd, hdd, _⟩ := row_form m5
  rw [hff] at m3
  rw [hff, hcc, hdd]
  simp only [List.length_nil, List.length_singleton, outV]
  clear m1 m4 m5 m6 hjr hf4 hC4 l1 l2 hrep hff hcc hdd
  have z0 : w5.cell? ⟨w.heap.size, 0, none⟩ = some (.string ⟨#[]⟩) := cell_of_row _ _ 0 _ _ _ hC5
  have z1 : w5.cell? ⟨w.heap.size, 1, none⟩ = some (.bool false) := cell_of_row _ _ 1 _ _ _ hC5
  have z2 : w5.cell? ⟨w.heap.size, 2, none⟩ = some (.slice none 0 0) := cell_of_row _ _ 2 _ _ _ hC5
  have z3 : w5.cell? ⟨w.heap.size, 3, none⟩ = some (.slice none 0 0) := cell_of_row _ _ 3 _ _ _ hC5
  have z4 : w5.cell? ⟨w.heap.size, 4, none⟩ = some (.slice none 0 0) := cell_of_row _ _ 4 _ _ _ hC5
  have y0 := frozen_of_row w5 w.heap.size 0 _ _ hC5
  have y1 := frozen_of_row w5 w.heap.size 1 _ _ hC5
  have y2 := frozen_of_row w5 w.heap.size 2 _ _ hC5
  have y3 := frozen_of_row w5 w.heap.size 3 _ _ hC5
  have y4 := frozen_of_row w5 w.heap.size 4 _ _ hC5
  have hgC := grown_cellOf (grown_cellOf (grown_cellOf (grown_cellOf (grown_cellOf (grown_self w5 (some w.heap.size)) 0 (.string ⟨#[]⟩)) 1 (.bool false)) 2 (.slice af fs.length kf)) 3 (.slice ac 0 kc)) 4 (.slice ad 1 kd)
  have hC6 : (((((w5.setCell ⟨w.heap.size, 0, none⟩ (.string ⟨#[]⟩)).setCell ⟨w.heap.size, 1, none⟩ (.bool false)).setCell ⟨w.heap.size, 2, none⟩ (.slice af fs.length kf)).setCell ⟨w.heap.size, 3, none⟩ (.slice ac 0 kc)).setCell ⟨w.heap.size, 4, none⟩ (.slice ad 1 kd)).heap[w.heap.size]? = some (.cells #[.string ⟨#[]⟩, .bool false, .slice af fs.length kf, .slice ac 0 kc, .slice ad 1 kd] 52) := by
    simp [World.setCell, Array.getElem?_modify, hC5]
  have t1 := m3.kept hgC (.inr (row_not m3 hC5 (fun c e => (by cases e))))
  have hn6 := m1'.kept (S := fun k => k = w.heap.size) (Fx.grown hgC fun k e => by cases e; rfl) (fun k hk _ => by
    subst hk
    exact ⟨_, hC5, ⟨fun c e => (by cases e), fun c e => (by cases e), fun c e => (by cases e)⟩, fun c e => (by cases e), fun c d e => (by cases e)⟩)
  have hf6 := grown_Fx hf5 hgC (fun i hi e => by cases e; omega)
  clear m1' m3 hgC hf5
  go_wp2_with fail
  generalize World.setCell _ _ _ = W6 at hC6 t1 hn6 hf6 ⊢
  have p0 : W6.cell? ⟨w.heap.size, 0, none⟩ = some (.string ⟨#[]⟩) := cell_of_row _ _ 0 _ _ _ hC6
  have p1 : W6.cell? ⟨w.heap.size, 1, none⟩ = some (.bool false) := cell_of_row _ _ 1 _ _ _ hC6
  have p2 : W6.cell? ⟨w.heap.size, 2, none⟩ = some (.slice af fs.length kf) := cell_of_row _ _ 2 _ _ _ hC6
  have p3 : W6.cell? ⟨w.heap.size, 3, none⟩ = some (.slice ac 0 kc) := cell_of_row _ _ 3 _ _ _ hC6
  have p4 : W6.cell? ⟨w.heap.size, 4, none⟩ = some (.slice ad 1 kd) := cell_of_row _ _ 4 _ _ _ hC6
  have u0 := hn6.nd.cell.1
  rw [q7] at u0
  refine leaves_cons (f := 50) (args := #[.pointer (some ⟨N, 0, none⟩)]) (by simp) (by simp [go_sem]) ?_
  refine (unlock_deferred muLib ⟨N, 0, none⟩ .returning W6 u0 (hn6.nd.free 0)).mono ?_
  rintro e u' w'' ⟨rfl, rfl, rfl⟩
  obtain ⟨hn7, hg7⟩ := hn6.setLk 0
  have hC7 := (hg7.block w.heap.size (Array.getElem?_eq_some_iff.1 hC6).1 (fun e => by cases e; omega)).trans hC6
  have t7 := t1.kept hg7 (.inr (row_not t1 hn6.nd (fun c e => (by cases e))))
  have hf7 := grown_Fx hf6 hg7 (fun i _ e => by cases e; exact .inl rfl)
  clear p0 p1 p2 p3 p4 u0 hn6 hf6 t1 hC6 hg7
  generalize World.setCell _ _ _ = W7 at hn7 hC7 t7 hf7 ⊢
  have p0 : W7.cell? ⟨w.heap.size, 0, none⟩ = some (.string ⟨#[]⟩) := cell_of_row _ _ 0 _ _ _ hC7
  have p1 : W7.cell? ⟨w.heap.size, 1, none⟩ = some (.bool false) := cell_of_row _ _ 1 _ _ _ hC7
  have p2 : W7.cell? ⟨w.heap.size, 2, none⟩ = some (.slice af fs.length kf) := cell_of_row _ _ 2 _ _ _ hC7
  have p3 : W7.cell? ⟨w.heap.size, 3, none⟩ = some (.slice ac 0 kc) := cell_of_row _ _ 3 _ _ _ hC7
  have p4 : W7.cell? ⟨w.heap.size, 4, none⟩ = some (.slice ad 1 kd) := cell_of_row _ _ 4 _ _ _ hC7
  have hS' := hS.lk
  rw [hlk] at hS'
  refine ⟨.agg #[.string ⟨#[]⟩, .bool false, .slice af fs.length kf, .slice ac 0 kc, .slice ad 1 kd], by simp [results, Tryz.results25, go_sem, p0, p1, p2, p3, p4], { x' with lk := 0 }, fs, r, af, kf, ac, kc, ad, kd, gg', sz2, rfl, hS', hn7, by omega, ownsRow_base_a t7 (by omega), ?_, hf7⟩
  intro k hk
  refine k4 k ?_
  unfold NdIn at hk ⊢
  dsimp only at hk ⊢
  rw [q4, q5] at hk
  exact hk
end Go.Proofs.YtakaadcpaeiccabGreat

namespace Go.Proofs.YtakaadcpaeiccabGreat
open Go.RowKit Go.Maps Go.MuLone

set_option maxHeartbeats 1000000 in
theorem newSeen_any (w : World) :
    Calls Tryz.prog 45 #[] w fun e w' => ∃ Ms, e = .returned (.agg #[.map (some Ms), .int .i64 0]) ∧ Below w.heap.size w w' := by
  have hmm := @run_makeMap Tryz.prog
  have hbA : Below w.heap.size w (w.alloc (.cells #[.map (some (w.heap.size + 1)), .int .i64 0] 113)) := (Below.refl _ _).alloc (Nat.le_refl _) _
  have hb : Below w.heap.size w ((w.alloc (.cells #[.map (some (w.heap.size + 1)), .int .i64 0] 113)).alloc (.map #[] 0)) := hbA.alloc hbA.size _
  have hC : ((w.alloc (.cells #[.map (some (w.heap.size + 1)), .int .i64 0] 113)).alloc (.map #[] 0)).heap[w.heap.size]? = some (.cells #[.map (some (w.heap.size + 1)), .int .i64 0] 113) := (((Below.refl _ (w.alloc (.cells #[.map (some (w.heap.size + 1)), .int .i64 0] 113))).alloc (Nat.le_refl _) _).block w.heap.size (by simp)).trans (heap_alloc_new _ _)
  go_enter Tryz.func45, Tryz.ntmps45
  go_wp2
  generalize World.alloc (World.alloc _ _) _ = W at hb hC ⊢
  have p0 : W.cell? ⟨w.heap.size, 0, none⟩ = some (.map (some (w.heap.size + 1))) := cell_of_row _ _ 0 _ _ _ hC
  have p1 : W.cell? ⟨w.heap.size, 1, none⟩ = some (.int .i64 0) := cell_of_row _ _ 1 _ _ _ hC
  exact bodyPost_ret (v := .agg #[.map (some (w.heap.size + 1)), .int .i64 0]) (by simp [results, Tryz.results45, go_sem, p0, p1]) rfl ⟨_, rfl, hb⟩
set_option maxHeartbeats 1000000 in
theorem newDiary_any (w : World) :
    Calls Tryz.prog 46 #[] w fun e w' => ∃ Mo, e = .returned (.agg #[.int .u32 0, .map (some Mo), .int .i64 0]) ∧ Below w.heap.size w w' ∧ MapU w' Mo (fun _ => none) 0 ∧ w.heap.size ≤ Mo := by
  have hmm := @run_makeMap Tryz.prog
  have hbA : Below w.heap.size w (w.alloc (.cells #[.int .u32 0, .map (some (w.heap.size + 1)), .int .i64 0] 117)) := (Below.refl _ _).alloc (Nat.le_refl _) _
  have hb : Below w.heap.size w ((w.alloc (.cells #[.int .u32 0, .map (some (w.heap.size + 1)), .int .i64 0] 117)).alloc (.map #[] 0)) := hbA.alloc hbA.size _
  have hC : ((w.alloc (.cells #[.int .u32 0, .map (some (w.heap.size + 1)), .int .i64 0] 117)).alloc (.map #[] 0)).heap[w.heap.size]? = some (.cells #[.int .u32 0, .map (some (w.heap.size + 1)), .int .i64 0] 117) := (((Below.refl _ (w.alloc (.cells #[.int .u32 0, .map (some (w.heap.size + 1)), .int .i64 0] 117))).alloc (Nat.le_refl _) _).block w.heap.size (by simp)).trans (heap_alloc_new _ _)
  have hM := MapU.made (w.alloc (.cells #[.int .u32 0, .map (some (w.heap.size + 1)), .int .i64 0] 117))
  rw [World.size_alloc] at hM
  go_enter Tryz.func46, Tryz.ntmps46
  go_wp2
  generalize World.alloc (World.alloc _ _) _ = W at hb hC hM ⊢
  have p0 : W.cell? ⟨w.heap.size, 0, none⟩ = some (.int .u32 0) := cell_of_row _ _ 0 _ _ _ hC
  have p1 : W.cell? ⟨w.heap.size, 1, none⟩ = some (.map (some (w.heap.size + 1))) := cell_of_row _ _ 1 _ _ _ hC
  have p2 : W.cell? ⟨w.heap.size, 2, none⟩ = some (.int .i64 0) := cell_of_row _ _ 2 _ _ _ hC
  exact bodyPost_ret (v := .agg #[.int .u32 0, .map (some (w.heap.size + 1)), .int .i64 0]) (by simp [results, Tryz.results46, go_sem, p0, p1, p2]) rfl ⟨_, rfl, hb, hM, Nat.le_succ _⟩

set_option maxHeartbeats 1000000 in
theorem Seq_any (N : Nat) (x : NdV) {M : Nat} {ff : Int → Option Nat} {gg : Int → Value} {A : List Rt} {f : Int → Option Int} {sz : Nat} (w : World) (hn : NdM N x M ff gg A f sz w) (hlk : x.lk = 0) :
    Calls Tryz.prog 24 #[.pointer (some ⟨N, 0, none⟩)] w fun e w' => e = .returned (.int .u32 x.seq) ∧ NdM N x M ff gg A f sz w' ∧ Fx (NdIn N x M ff gg A) w w' := by
  have c0 := hn.nd.cell.1
  rw [hlk] at c0
  have g0 := hn.nd.free 0
  obtain ⟨hn2, hg2⟩ := hn.setLk 1
  have c3 := hn2.nd.cell.2.2.1
  have u0 := hn2.nd.cell.1
  have g2 := hn2.nd.free 0
  obtain ⟨hn3, hg3⟩ := hn2.setLk 0
  have hx : ({ x with lk := 0 } : NdV) = x := by rw [← hlk]
  have hn4 : NdM N x M ff gg A f sz ((w.setCell ⟨N, 0, none⟩ (.int .i32 1)).setCell ⟨N, 0, none⟩ (.int .i32 0)) := by
    rw [← hx]
    exact hn3
  have hf4 : Fx (NdIn N x M ff gg A) w ((w.setCell ⟨N, 0, none⟩ (.int .i32 1)).setCell ⟨N, 0, none⟩ (.int .i32 0)) := grown_Fx (Fx.grown hg2 (fun k e => by cases e; exact .inl rfl)) hg3 (fun i _ e => by cases e; exact .inl rfl)
  dsimp only at c3 u0
  clear hn hn2 hn3 hg2 hg3 hx
  go_enter_defers Tryz.func24, Tryz.ntmps24
  go_wp2_with fail
  refine Calls.mono (lock_free muLib ⟨N, 0, none⟩ w c0 g0) ?_
  rintro e w2 ⟨rfl, rfl⟩
  generalize World.setCell _ _ _ = W2 at c3 u0 g2 hn4 hf4 ⊢
  go_wp2_with fail
  refine leaves_cons (f := 50) (args := #[.pointer (some ⟨N, 0, none⟩)]) (by simp) (by simp [go_sem]) ?_
  refine (unlock_deferred muLib ⟨N, 0, none⟩ .returning W2 u0 g2).mono ?_
  rintro e u' w'' ⟨rfl, rfl, rfl⟩
  exact ⟨_, results_tmp rfl _ _ _, rfl, hn4, hf4⟩

set_option maxHeartbeats 1000000 in
theorem Routes_any (N : Nat) (x : NdV) {M : Nat} {ff : Int → Option Nat} {gg : Int → Value} {A : List Rt} {f : Int → Option Int} {sz : Nat} (w : World) (hn : NdM N x M ff gg A f sz w) (hlk : x.lk = 0) :
    Calls Tryz.prog 26 #[.pointer (some ⟨N, 0, none⟩)] w fun e w' => ∃ ao c L, e = .returned (.slice ao A.length c) ∧ L.map (·.1) = A ∧ HoldsC w' ao (RtC L) ∧ NdM N x M ff gg A f sz w' ∧ Fx (NdIn N x M ff gg A) w w' := by
  have c0 := hn.nd.cell.1
  rw [hlk] at c0
  have g0 := hn.nd.free 0
  obtain ⟨hn2, hg2⟩ := hn.setLk 1
  have hf2 : Fx (NdIn N x M ff gg A) w (w.setCell ⟨N, 0, none⟩ (.int .i32 1)) := Fx.grown hg2 (fun k e => by cases e; exact .inl rfl)
  have hx : ({ x with lk := 0 } : NdV) = x := by rw [← hlk]
  have hNl := hn.nd.lt
  clear hn hg2
  go_enter_defers Tryz.func26, Tryz.ntmps26
  go_wp2_with fail
  refine Calls.mono (lock_free muLib ⟨N, 0, none⟩ w c0 g0) ?_
  rintro e w2 ⟨rfl, rfl⟩
  generalize World.setCell _ _ _ = W2 at hn2 hf2 ⊢
  have c5 := hn2.nd.cell.2.2.2.2.1
  dsimp only at c5
  go_wp2_with fail
  refine Calls.mono (List_any hn2.tb) ?_
  rintro e w3 ⟨v, L, rfl, hL, hls, hb3⟩
  obtain ⟨ao, c, rfl, hH⟩ := row_form hls.row
  have hLl : L.length = A.length := by rw [← hL]; simp
  have hn3 := hn2.later hb3
  have u0 := hn3.nd.cell.1
  have g2 := hn3.nd.free 0
  obtain ⟨hn4, hg4⟩ := hn3.setLk 0
  have hf4 := grown_Fx (hf2.trans (Fx.below (S := fun _ => False) hb3) (fun _ _ h => h.elim)) hg4 (fun i _ e => by cases e; exact .inl rfl)
  have hr4 := hls.row.kept hg4 (.inr (row_not hls.row hn3.nd (fun c e => (by cases e))))
  obtain ⟨ao', c', he, hH4⟩ := row_form hr4
  cases he
  dsimp only at u0
  go_wp2_with fail
  refine leaves_cons (f := 50) (args := #[.pointer (some ⟨N, 0, none⟩)]) (by simp) (by simp [go_sem]) ?_
  refine (unlock_deferred muLib ⟨N, 0, none⟩ .returning w3 u0 g2).mono ?_
  rintro e u' w'' ⟨rfl, rfl, rfl⟩
  refine ⟨_, results_tmp rfl _ _ _, _, c, L, ?_, hL, hH4, ?_, hf4⟩
  · rw [← hLl]
    rfl
  · have := hn4
    rw [hx] at this
    exact this
end Go.Proofs.YtakaadcpaeiccabGreat

namespace Go.Proofs.YtakaadcpaeiccabGreat
open Go.RowKit Go.Maps Go.MuLone

/-- A node that has begun again out of a journal. -/
structure BootP (me now : Int) (J : List (Bool × Int × Int)) (N : Nat) (x : NdV) (A : List Rt) (f : Int → Option Int) : Prop where
  lk : x.lk = 0
  self : x.self = me
  seq : x.seq = gr ((owL J).getD 0)
  own : x.own = x.seq
  sil : x.sil = now + 2000
  cnt0 : 0 ≤ x.cnt
  cnt : x.cnt ≤ 9
  tab : ∃ out, IsCmp (mpL J) (owL J) out ∧ A = nwL me out
  news : f = (newsP x.seq 0 (fun _ => none) A).1
theorem own_u32 {J : List (Bool × Int × Int)} (h : RBd J) : U32 ((owL J).getD 0) := by
  have : ∀ (J : List (Bool × Int × Int)) (c : Option Int), RBd J → OB c → OB (J.foldl stepO c) := by
    intro J
    induction J with
    | nil => intro c _ h; exact h
    | cons y J ih =>
      intro c hJ hc
      rw [List.foldl_cons]
      exact ih _ (fun z hz => hJ z (List.mem_cons_of_mem _ hz)) (hc.step (rbd_u hJ (List.mem_cons_self ..)).2)
  exact (this J none h ob_nil).getD

theorem MT.later' {me : Int} {T M : Nat} {f : Int → Option Nat} {g : Int → Value} {A : List Rt} {W W' : World} (h : MT me T M f g A W) (hb : Below W.heap.size W W') : MT me T M f g A W' := h.kept fun k hk => hb.block k (h.lt hk)

set_option maxHeartbeats 1000000 in
theorem NewTimers_few (w : World) :
    Calls Tryz.prog 47 #[] w fun e w' => ∃ T, e = .returned (.pointer (some ⟨T, 0, none⟩)) ∧ Below w.heap.size w w' := by
  have hmm := @run_makeMap Tryz.prog
  have hB : Below w.heap.size w ((w.alloc (.map #[] 0)).alloc (.cells #[.slice none 0 0, .map (some w.heap.size), .int .i64 0] 165)) := ((Below.refl _ _).alloc (Nat.le_refl _) _).alloc (by simp) _
  go_enter Tryz.func47, Tryz.ntmps47
  go_wp2
  go_returns
  exact ⟨_, rfl, hB⟩

set_option maxRecDepth 100000 in
set_option maxHeartbeats 2000000 in
theorem NewNode_boot (me now : Int) (_hU : U32 me) (hself : me ≠ 0) (v : Value) (xs : List Int) (w : World) (hv : RestV w v xs) (hx0 : 0 < xs.length) (hx1 : xs.length ≤ 100000) (hjb : RBd (jl xs)) (hjl : (jl xs).length ≤ 50000) (hnow : 0 ≤ now ∧ now ≤ 4611686018427387904) :
    Calls Tryz.prog 19 #[.int .u32 me, v, .int .u64 now] w fun e w' => ∃ N x M ff gg A f sz s, e = .returned (.tuple #[.pointer (some ⟨N, 0, none⟩), outV s true (.slice none 0 0) (.slice none 0 0) (.slice none 0 0), .int .i64 0]) ∧ BootP me now (jl xs) N x A f ∧ NdM N x M ff gg A f sz w' ∧ sz ≤ 8 ∧ (∀ k, NdIn N x M ff gg A k → w.heap.size ≤ k) ∧ Below w.heap.size w w' := by
  have hs0 : (me == 0) = false := by simpa using hself
  have hmm := @run_makeMap Tryz.prog
  have hb0 : Below w.heap.size w (w.alloc outZ) := (Below.refl _ _).alloc (Nat.le_refl _) _
  have hC0 : (w.alloc outZ).heap[w.heap.size]? = some outZ := heap_alloc_new _ _
  have hz0 : w.heap.size + 1 ≤ (w.alloc outZ).heap.size := by simp
  have hv0 := hv.kept hb0
  obtain ⟨av, cv, rfl⟩ : ∃ a c, v = .slice a xs.length c := by
    rcases hv.2 with ⟨rfl, rfl⟩ | ⟨b, o, c, rfl, _⟩
    · simp at hx0
    · exact ⟨_, _, rfl⟩
  have hlen : (0 : Int) < (xs.length : Int) := by omega
  have HR := (show Hid _ from fun W hW => ReadJournal_any (.slice av xs.length cv) xs (by omega) W (hv.kept hW))
  dsimp only [outZ] at hb0 hC0 hz0 hv0
  clear hv hv0
  go_enter Tryz.func19, Tryz.ntmps19
  go_upto_region 1 with (fail)
  generalize World.alloc _ _ = W1 at hb0 hC0 hz0 ⊢
  go_wp2_with fail
  refine Calls.mono (HR.out W1 hb0) ?_
  rintro e w2 ⟨u, rfl, hb2, hu⟩
  obtain ⟨au, cu, rfl, hH⟩ := row_form hu
  generalize hJ : (jl xs) = J at hjb hjl hH hu
  have hJ' := (show Hid _ from hJ)
  clear hJ HR
  have hbb2 := hb0.trans (hb2.mono hb0.size)
  have hC2 := (hb2.block _ (by omega : w.heap.size < W1.heap.size)).trans hC0
  have hz2 := hb2.size
  go_wp2_with fail
  refine Calls.mono (greatestOwn_any au J.length cu J rfl (by omega) hjb w2 hH) ?_
  rintro e w3 ⟨rfl, hb3⟩
  have hgu : U32 (gr ((owL J).getD 0)) := gr_u32 (own_u32 hjb)
  generalize hgo : (owL J).getD 0 = g0 at hgu ⊢
  have hgo' := (show Hid _ from hgo)
  clear hgo
  go_wp2_with fail
  refine Calls.mono (grown_any g0 w3) ?_
  rintro e w4 ⟨rfl, rfl⟩
  have hH3 := hH.below hb3
  have hbb3 := hbb2.trans (hb3.mono hbb2.size)
  have hC3 := (hb3.block _ (by omega : w.heap.size < w2.heap.size)).trans hC2
  have hz3 := hb3.size
  generalize hq : gr g0 = q at hgu ⊢
  have hq' := (show Hid _ from hq)
  clear hq hC0 hC2 hH hu hbb2 hb0 hb2 hb3
  go_wp2_with fail
  refine Calls.mono (NewRoutes_any me au J.length cu J rfl hjl hjb w4 hH3) ?_
  rintro e w5 ⟨T, out, rfl, hcmp, ⟨M, ff, gg, hMT, hTS⟩, hb5⟩
  go_wp2_with fail
  refine Calls.mono (newSeen_any w5) ?_
  rintro e w6 ⟨Ms, rfl, hb6⟩
  go_wp2_with fail
  refine Calls.mono (newDiary_any w6) ?_
  rintro e w7 ⟨Mo, rfl, hb7, hmo, hMo⟩
  have hb8' : Below w7.heap.size w7 (w7.alloc (.map #[] 0)) := (Below.refl _ _).alloc (Nat.le_refl _) _
  go_wp2_with fail
  generalize World.alloc _ _ = W8' at hb8' ⊢
  refine Calls.mono (NewTimers_few W8') ?_
  rintro e w9 ⟨Tm, rfl, hb9'⟩
  have hb79 := hb8'.trans (hb9'.mono hb8'.size)
  replace hmo := hmo.block (hb79.block _ hmo.lt)
  replace hb7 := hb7.trans (hb79.mono hb7.size)
  clear hb8' hb9' hb79
  have hb67 := hb6.trans (hb7.mono hb6.size)
  have hMl := hMT.map.lt
  have hz5 := hb5.size
  have hz6 := hb6.size
  have hz7 := hb7.size
  have hMT7 := hMT.later' hb67
  have hC7 := (hb67.block _ (by omega : w.heap.size < w5.heap.size)).trans ((hb5.block _ (by omega : w.heap.size < w4.heap.size)).trans hC3)
  have hbb7 := hbb3.trans ((hb5.trans (hb67.mono hb5.size)).mono hbb3.size)
  have hA8 : (nwL me out).length ≤ 8 := hMT.len
  have hTlo : ∀ k, TIn T M ff gg (nwL me out) k → w.heap.size ≤ k := fun k hk => by have := (hTS k hk).1; omega
  generalize hA : nwL me out = A at hMT7 hA8 hTlo
  have hA' := (show Hid _ from hA)
  clear hA hMT hTS hb5 hb6 hb7 hb67 hH3 hC3 hbb3
  have hbN : Below w9.heap.size w9 (w9.alloc (ndBox ⟨0, me, q, 0, T, Ms, 0, 0, Mo, 0, 0, 0, w7.heap.size, Tm, .slice none 0 0⟩)) := (Below.refl _ _).alloc (Nat.le_refl _) _
  have hn8 : NdM w9.heap.size ⟨0, me, q, 0, T, Ms, 0, 0, Mo, 0, 0, 0, w7.heap.size, Tm, .slice none 0 0⟩ M ff gg A (fun _ => none) 0 (w9.alloc (ndBox ⟨0, me, q, 0, T, Ms, 0, 0, Mo, 0, 0, 0, w7.heap.size, Tm, .slice none 0 0⟩)) :=
    ⟨heap_alloc_new _ _, hmo.block (hbN.block _ hmo.lt), hMT7.kept fun k hk => hbN.block k (hMT7.lt hk), by dsimp only; omega⟩
  have hC8 := (hbN.block _ (by omega : w.heap.size < w9.heap.size)).trans hC7
  have hbb8 := hbb7.trans (hbN.mono hbb7.size)
  have hz8 : w9.heap.size + 1 ≤ (w9.alloc (ndBox ⟨0, me, q, 0, T, Ms, 0, 0, Mo, 0, 0, 0, w7.heap.size, Tm, .slice none 0 0⟩)).heap.size := by simp
  have hMol := hmo.lt
  clear hMT7 hmo hbN hC7 hbb7
  dsimp only [ndBox] at hn8 hC8 hbb8 hz8
  go_upto_region 5 with (fail)
  generalize World.alloc _ _ = W8 at hn8 hC8 hbb8 hz8 ⊢
  have hwN : w.heap.size < w9.heap.size := by omega
  have hMoN : w.heap.size < Mo := by omega
  generalize w9.heap.size = N at hn8 hz8 hMol hwN ⊢
  have hNB : N < W8.heap.size := by omega
  obtain ⟨hn10, hg10⟩ := hn8.setSil (now + 2000)
  have hs10 : (W8.setCell ⟨N, 4, none⟩ (.int .u64 (now + 2000))).heap.size = W8.heap.size := by simp
  have hb11 : Below (W8.setCell ⟨N, 4, none⟩ (.int .u64 (now + 2000))).heap.size (W8.setCell ⟨N, 4, none⟩ (.int .u64 (now + 2000))) ((W8.setCell ⟨N, 4, none⟩ (.int .u64 (now + 2000))).alloc (acBox { acZ now with rep := true })) := (Below.refl _ _).alloc (Nat.le_refl _) _
  have hn11 := hn10.later hb11
  have hal := heap_alloc_new (W8.setCell ⟨N, 4, none⟩ (.int .u64 (now + 2000))) (acBox { acZ now with rep := true })
  rw [hs10] at hal
  have ha11 : AcM W8.heap.size (W8.heap.size + 1) { acZ now with rep := true } [] [] [] [] ((W8.setCell ⟨N, 4, none⟩ (.int .u64 (now + 2000))).alloc (acBox { acZ now with rep := true })) :=
    ⟨hal, ⟨rfl, .inl ⟨rfl, rfl⟩⟩, ⟨rfl, .inl ⟨rfl, rfl⟩⟩, ⟨rfl, .inl ⟨rfl, rfl⟩⟩, ⟨rfl, .inl ⟨rfl, rfl⟩⟩⟩
  have hC11 := (hb11.block w.heap.size (by rw [hs10]; omega)).trans ((hg10.block w.heap.size (by omega) (fun e => by have := Option.some.inj e; omega)).trans hC8)
  have hbb10 := hbb8.grown hg10 hbb8.size (fun k e => by cases e; omega)
  have hbb11 := hbb10.trans (hb11.mono hbb10.size)
  have hz11 := ha11.blk.lt
  obtain ⟨n0, n2, n3, n4, n5, n6, n7, n8, n9, n10⟩ := hn8.nd.cell
  have g4 := hn8.nd.free 4
  clear hn8 hC8 hbb8 hn10 hg10 hb11 hal hbb10 hs10
  dsimp only [acBox, acZ] at n0 n2 n3 n4 n5 n6 n7 n8 n9 n10 g4 hn11 ha11 hC11 hbb11 hz11
  go_upto_region 9 with (fail)
  generalize World.alloc (World.setCell _ _ _) _ = W11 at hn11 ha11 hC11 hbb11 hz11 ⊢
  clear n0 n2 n3 n4 n5 n6 n7 n8 n9 n10 g4
  have hnl : (newsP q 0 (fun _ => none) A).2.length ≤ 9 := Nat.le_trans (newsP_len _ _ _ _) (by omega)
  have HF := (show Hid _ from finish_few N W8.heap.size (W8.heap.size + 1) _ _ [] [] [] [] W11 hn11 ha11 hz11 (Int.le_refl 0) (by dsimp only; omega) (by omega) (by simp) (fun _ h => by simp at h) hgu)
  dsimp only [outV] at HF
  go_wp2_with fail
  refine Calls.mono HF.out ?_
  rintro e w12 ⟨sz', rfl, m1, m2, m3, m4, m5, m6⟩
  have hlo : ∀ k, (k = N ∨ k = Mo ∨ AcIn W8.heap.size ⟨now, .slice none 0 0, ⟨#[]⟩, true, .slice none 0 0, .slice none 0 0, .slice none 0 0⟩ k) → w.heap.size < k := by
    rintro k (rfl | rfl | h)
    · exact hwN
    · exact hMoN
    · have := ha11.ge h
      omega
  have hC12 := (m6.block w.heap.size (by omega) (fun h => by have := hlo _ h; omega)).trans hC11
  have hbb12 := hbb11.trans (m6.toBelow hbb11.size (fun k hk h => by have := hlo _ h; omega))
  have hz12 := m6.size
  clear HF m3 m4 m5 m6 hn11 ha11 hC11 hbb11
  generalize strOfNums _ = ss
  have z0 : w12.cell? ⟨w.heap.size, 0, none⟩ = some (.string ⟨#[]⟩) := cell_of_row _ _ 0 _ _ _ hC12
  have z1 : w12.cell? ⟨w.heap.size, 1, none⟩ = some (.bool false) := cell_of_row _ _ 1 _ _ _ hC12
  have z2 : w12.cell? ⟨w.heap.size, 2, none⟩ = some (.slice none 0 0) := cell_of_row _ _ 2 _ _ _ hC12
  have z3 : w12.cell? ⟨w.heap.size, 3, none⟩ = some (.slice none 0 0) := cell_of_row _ _ 3 _ _ _ hC12
  have z4 : w12.cell? ⟨w.heap.size, 4, none⟩ = some (.slice none 0 0) := cell_of_row _ _ 4 _ _ _ hC12
  have y0 := frozen_of_row w12 w.heap.size 0 _ _ hC12
  have y1 := frozen_of_row w12 w.heap.size 1 _ _ hC12
  have y2 := frozen_of_row w12 w.heap.size 2 _ _ hC12
  have y3 := frozen_of_row w12 w.heap.size 3 _ _ hC12
  have y4 := frozen_of_row w12 w.heap.size 4 _ _ hC12
  have hgC := grown_cellOf (grown_cellOf (grown_cellOf (grown_cellOf (grown_cellOf (grown_self w12 (some w.heap.size)) 0 (.string ss)) 1 (.bool true)) 2 (.slice none 0 0)) 3 (.slice none 0 0)) 4 (.slice none 0 0)
  have hC13 : (((((w12.setCell ⟨w.heap.size, 0, none⟩ (.string ss)).setCell ⟨w.heap.size, 1, none⟩ (.bool true)).setCell ⟨w.heap.size, 2, none⟩ (.slice none 0 0)).setCell ⟨w.heap.size, 3, none⟩ (.slice none 0 0)).setCell ⟨w.heap.size, 4, none⟩ (.slice none 0 0)).heap[w.heap.size]? = some (.cells #[.string ss, .bool true, .slice none 0 0, .slice none 0 0, .slice none 0 0] 52) := by
    simp [World.setCell, Array.getElem?_modify, hC12]
  have hn13 := m1.kept (S := fun k => k = w.heap.size) (Fx.grown hgC fun k e => by cases e; rfl) (fun k hk _ => by
    subst hk
    exact ⟨_, hC12, ⟨fun c e => (by cases e), fun c e => (by cases e), fun c e => (by cases e)⟩, fun c e => (by cases e), fun c d e => (by cases e)⟩)
  have hbb13 := hbb12.grown hgC hbb12.size (fun k e => by cases e; exact Nat.le_refl _)
  clear m1 hgC hbb12 hC12
  go_wp2
  generalize World.setCell _ _ _ = W13 at hC13 hn13 hbb13 ⊢
  have p0 : W13.cell? ⟨w.heap.size, 0, none⟩ = some (.string ss) := cell_of_row _ _ 0 _ _ _ hC13
  have p1 : W13.cell? ⟨w.heap.size, 1, none⟩ = some (.bool true) := cell_of_row _ _ 1 _ _ _ hC13
  have p2 : W13.cell? ⟨w.heap.size, 2, none⟩ = some (.slice none 0 0) := cell_of_row _ _ 2 _ _ _ hC13
  have p3 : W13.cell? ⟨w.heap.size, 3, none⟩ = some (.slice none 0 0) := cell_of_row _ _ 3 _ _ _ hC13
  have p4 : W13.cell? ⟨w.heap.size, 4, none⟩ = some (.slice none 0 0) := cell_of_row _ _ 4 _ _ _ hC13
  refine bodyPost_ret (v := .tuple #[.pointer (some ⟨N, 0, none⟩), .agg #[.string ss, .bool true, .slice none 0 0, .slice none 0 0, .slice none 0 0], .int .i64 0]) (by simp [results, Tryz.results19, go_sem, p0, p1, p2, p3, p4]) rfl ⟨N, _, M, ff, gg, A, _, sz', ss, rfl, ?_, hn13, by omega, ?_, hbb13⟩
  · rw [hJ'.out]
    have h0 : mxO q 0 = q := by
      unfold mxO
      unfold U32 at hgu
      split <;> omega
    exact ⟨rfl, rfl, by rw [hgo'.out, hq'.out], h0, rfl, by dsimp only; omega, by dsimp only; omega, ⟨out, hcmp, hA'.out.symm⟩, rfl⟩
  · rintro k (rfl | rfl | h)
    · omega
    · omega
    · exact hTlo k h
end Go.Proofs.YtakaadcpaeiccabGreat
