import Derived.Test.YtakaadcpaeiccabGreatC20
import Derived.Test.YtakaadcpaeiccabGreatC03
namespace Go.Proofs.YtakaadcpaeiccabGreat
open Go.RowKit Go.Maps

theorem some_lt' {W : World} {k : Nat} {o : Obj} (h : W.heap[k]? = some o) : k < W.heap.size := (Array.getElem?_eq_some_iff.1 h).1
theorem memR_shape {v : Value} {y : DataW Unit × List MemPlace} (h : memR v = some y) : ∃ c, v = encM c := by
  obtain ⟨m, h1, _⟩ := memR_inv h
  exact ⟨m, h1⟩
theorem encQ_inj {a b : Int × Int} (h : encQ a = encQ b) : a = b := by
  unfold encQ at h
  simp only [Value.agg.injEq, Array.mk.injEq, List.cons.injEq, Value.int.injEq, true_and, and_true] at h
  exact Prod.ext h.1 h.2
def QB (B : Nat) (q : Int × Int) (W : World) : Prop := W.heap[B]? = some (qBox q)
def MmB (B : Nat) (m : Int × Int) (W : World) : Prop := W.heap[B]? = some (mBox m)

theorem QB.cell {B : Nat} {q : Int × Int} {W : World} (h : QB B q W) : W.cell? ⟨B, 0, none⟩ = some (.int .u32 q.1) ∧ W.cell? ⟨B, 1, none⟩ = some (.int .u32 q.2) := ⟨cell_of_row _ _ 0 _ _ _ h, cell_of_row _ _ 1 _ _ _ h⟩
theorem QB.free {B : Nat} {q : Int × Int} {W : World} (h : QB B q W) (i : Nat) : W.frozen? ⟨B, i, none⟩ = false := by
  unfold World.frozen?
  rw [show W.heap[(⟨B, i, none⟩ : Addr).block]? = some (qBox q) from h]
  try rfl
theorem MmB.cell {B : Nat} {q : Int × Int} {W : World} (h : MmB B q W) : W.cell? ⟨B, 0, none⟩ = some (.int .u64 q.1) ∧ W.cell? ⟨B, 1, none⟩ = some (.int .i64 q.2) := ⟨cell_of_row _ _ 0 _ _ _ h, cell_of_row _ _ 1 _ _ _ h⟩
theorem MmB.free {B : Nat} {q : Int × Int} {W : World} (h : MmB B q W) (i : Nat) : W.frozen? ⟨B, i, none⟩ = false := by
  unfold World.frozen?
  rw [show W.heap[(⟨B, i, none⟩ : Addr).block]? = some (mBox q) from h]
  try rfl
theorem QB.set {B : Nat} {q : Int × Int} {W : World} (h : QB B q W) (p : Int × Int) : QB B p ((W.setCell ⟨B, 0, none⟩ (.int .u32 p.1)).setCell ⟨B, 1, none⟩ (.int .u32 p.2)) := by
  unfold QB at h ⊢
  simp [World.setCell, Array.getElem?_modify, h]
theorem MmB.set {B : Nat} {q : Int × Int} {W : World} (h : MmB B q W) (p : Int × Int) : MmB B p ((W.setCell ⟨B, 0, none⟩ (.int .u64 p.1)).setCell ⟨B, 1, none⟩ (.int .i64 p.2)) := by
  unfold MmB at h ⊢
  simp [World.setCell, Array.getElem?_modify, h]
theorem ranges_below {H : Type} {P : Program} {k : TypeId} {R : Value → Option (DataW H × List MemPlace)} {b r n : Nat} {D : DataW H} {left : Lit → Bool} {cnt : Nat} {W W' : World} (h : W.ranges P k R b r n D left cnt) (hb : Below W.heap.size W W') : W'.ranges P k R b r n D left cnt :=
  h.kept (row := none) ⟨hb.os, hb.tape, hb.output, hb.size, fun i hi _ => hb.block i hi⟩ (by simp) (by simp)
/-- What holds at the head of a round of 'first'. -/
structure FirR (Ms r n w0 : Nat) (D : DataW Unit) (E : List Mm) (wb : World) (left : Lit → Bool) (cnt : Nat) (an : Bool) (f l : Int × Int) (W : World) : Prop where
  rg : W.ranges Tryz.prog 261 memR Ms r n D left cnt
  fi : FirI E left an f l
  r0 : QB w0 (0, 0) W
  f0 : QB (w0 + 1) f W
  l0 : MmB (w0 + 2) l W
  be : Below w0 wb W
  sz : w0 + 4 ≤ W.heap.size
theorem FirR.later {Ms r n w0 : Nat} {D : DataW Unit} {E : List Mm} {wb : World} {left : Lit → Bool} {cnt : Nat} {an : Bool} {f l : Int × Int} {W W' : World} (h : FirR Ms r n w0 D E wb left cnt an f l W) (hb : Below W.heap.size W W') : FirR Ms r n w0 D E wb left cnt an f l W' := by
  have := h.sz
  have := hb.size
  exact ⟨ranges_below h.rg hb, h.fi, (hb.block _ (by omega)).trans h.r0, (hb.block _ (by omega)).trans h.f0, (hb.block _ (by omega)).trans h.l0, h.be.trans (hb.mono (by omega)), by omega⟩

theorem FirR.put {Ms r n w0 : Nat} {D : DataW Unit} {E : List Mm} {wb : World} {left : Lit → Bool} {cnt : Nat} {f l : Int × Int} {W : World} (rg : W.ranges Tryz.prog 261 memR Ms r n D left cnt) (r0 : QB w0 (0, 0) W) (f0 : QB (w0 + 1) f W) (l0 : MmB (w0 + 2) l W) (be : Below w0 wb W) (sz : w0 + 4 ≤ W.heap.size) (hr : r = w0 + 3) (hM : Ms < w0) {p m : Int × Int} (fi : FirI E left true p m) :
    FirR Ms r n w0 D E wb left cnt true p m ((((W.setCell ⟨w0 + 1, 0, none⟩ (.int .u32 p.1)).setCell ⟨w0 + 1, 1, none⟩ (.int .u32 p.2)).setCell ⟨w0 + 1 + 1, 0, none⟩ (.int .u64 m.1)).setCell ⟨w0 + 1 + 1, 1, none⟩ (.int .i64 m.2)).drew := by
  have hg1 : W.grownBy ((W.setCell ⟨w0 + 1, 0, none⟩ (.int .u32 p.1)).setCell ⟨w0 + 1, 1, none⟩ (.int .u32 p.2)) (some (w0 + 1)) := grown_cellOf (grown_cellOf (grown_self _ (some (w0 + 1))) 0 _) 1 _
  have hf1 := f0.set p
  have hr1 := rg.kept hg1 (by simp; omega) (by simp; omega)
  have h01 : QB w0 (0, 0) _ := (hg1.block w0 (by omega) (by simp)).trans r0
  have hl1 : MmB (w0 + 2) l _ := (hg1.block (w0 + 2) (by omega) (by simp)).trans l0
  have hb1 := be.grown hg1 (by omega) (fun k e => by cases e; omega)
  have hs1 := hg1.size
  generalize ((W.setCell ⟨w0 + 1, 0, none⟩ (.int .u32 p.1)).setCell ⟨w0 + 1, 1, none⟩ (.int .u32 p.2)) = W1 at hf1 hr1 h01 hl1 hb1 hs1 ⊢
  have hg2 : W1.grownBy ((W1.setCell ⟨w0 + 1 + 1, 0, none⟩ (.int .u64 m.1)).setCell ⟨w0 + 1 + 1, 1, none⟩ (.int .i64 m.2)) (some (w0 + 1 + 1)) := grown_cellOf (grown_cellOf (grown_self _ (some (w0 + 1 + 1))) 0 _) 1 _
  have hl2 := hl1.set m
  have hr2 := hr1.kept hg2 (by simp; omega) (by simp; omega)
  have h02 : QB w0 (0, 0) _ := (hg2.block w0 (by omega) (by simp; omega)).trans h01
  have hf2 : QB (w0 + 1) p _ := (hg2.block (w0 + 1) (by omega) (by simp)).trans hf1
  have hb2 := hb1.grown hg2 (by omega) (fun k e => by cases e; omega)
  have hs2 := hg2.size
  exact ⟨hr2, fi, h02, hf2, hl2, hb2.drew, Nat.le_trans sz (Nat.le_trans hs1 hs2)⟩

set_option maxRecDepth 100000 in
set_option maxHeartbeats 4000000 in
theorem first_any17 (N : Nat) (x : NdV) (e0 : Mm) (E : List Mm) (w : World) (hN : NdB N x w) (hs : ∃ g, MapQ w x.Ms g (e0 :: E).length ∧ (∀ e ∈ e0 :: E, g e.key = some (e.til, e.trn)) ∧ ∀ k m, QOk k → g k = some m → ∃ e ∈ e0 :: E, e.key = k ∧ m = (e.til, e.trn)) (hok : ∀ e ∈ e0 :: E, QOk e.key ∧ 0 ≤ e.til ∧ 0 ≤ e.trn ∧ e.trn < x.tn) (hasc : (e0 :: E).Pairwise fun a b => a.til ≤ b.til ∧ a.trn < b.trn ∧ a.key ≠ b.key) :
    Calls Tryz.prog 178 #[.pointer (some ⟨N, 8, none⟩)] w fun e w' => e = .returned (encQ e0.key) ∧ Below w.heap.size w w' := by
  obtain ⟨g, hmq, h4, h5⟩ := hs
  have hMsl := hmq.lt
  obtain ⟨D, h1, hsz, h3⟩ := hmq
  have h3' := (show Hid _ from h3)
  have h5' := (show Hid _ from h5)
  have hhas : Hid (∀ e ∈ e0 :: E, Maps.has D (qLit e.key) = true) := by
    intro e he
    rw [(h3 _ (hok e he).1).1, h4 e he]
    rfl
  have hb3 : Below w.heap.size w (((w.alloc (qBox (0, 0))).alloc (qBox (0, 0))).alloc (mBox (0, 0))) := (((Below.refl _ _).alloc (Nat.le_refl _) _).alloc (by simp) _).alloc (by simp; omega) _
  have hR : QB w.heap.size (0, 0) (((w.alloc (qBox (0, 0))).alloc (qBox (0, 0))).alloc (mBox (0, 0))) :=
    (((Below.refl _ ((w.alloc (qBox (0, 0))).alloc (qBox (0, 0)))).alloc (Nat.le_refl _) _).block w.heap.size (by simp; omega)).trans ((((Below.refl _ (w.alloc (qBox (0, 0)))).alloc (Nat.le_refl _) _).block w.heap.size (by simp)).trans (heap_alloc_new w _))
  have hF : QB (w.heap.size + 1) (0, 0) (((w.alloc (qBox (0, 0))).alloc (qBox (0, 0))).alloc (mBox (0, 0))) := by
    have h1 := ((Below.refl _ ((w.alloc (qBox (0, 0))).alloc (qBox (0, 0)))).alloc (Nat.le_refl _) (mBox (0, 0))).block (w.heap.size + 1) (by simp)
    have h2 := heap_alloc_new (w.alloc (qBox (0, 0))) (qBox (0, 0))
    rw [World.size_alloc] at h2
    exact h1.trans h2
  have hL : MmB (w.heap.size + 2) (0, 0) (((w.alloc (qBox (0, 0))).alloc (qBox (0, 0))).alloc (mBox (0, 0))) := by
    have := heap_alloc_new ((w.alloc (qBox (0, 0))).alloc (qBox (0, 0))) (mBox (0, 0))
    rw [World.size_alloc, World.size_alloc] at this
    exact this
  have hsz3 : (((w.alloc (qBox (0, 0))).alloc (qBox (0, 0))).alloc (mBox (0, 0))).heap.size = w.heap.size + 3 := by simp
  have hN3 := hN.later hb3
  have h13 : (((w.alloc (qBox (0, 0))).alloc (qBox (0, 0))).alloc (mBox (0, 0))).ownsMap Tryz.prog 261 memR x.Ms (e0 :: E).length D := by
    obtain ⟨es, clock, hb, Ft, hs, hD⟩ := h1
    exact ⟨es, clock, (hb3.block _ (some_lt' hb)).trans hb, Ft, hs, hD⟩
  clear h3 h5 h1 hN h4 hsz
  dsimp only [qBox, mBox] at hb3 hR hF hL hN3 h13 hsz3
  go_enter Tryz.func178, Tryz.ntmps178
  go_upto_region 3 with (fail)
  generalize World.alloc (World.alloc (World.alloc _ _) _) _ = W3 at hb3 hR hF hL hN3 h13 hsz3 ⊢
  obtain ⟨n0, n2, n3, n4, n5, n6, n7, n8, n9, n10⟩ := hN3.cell
  go_wp2_with (at_range; refine wpList_range_own _ rfl _ 111 rfl 261 279 tq_law Tryz.underlying111 _ x.Ms (e0 :: E).length _ rfl h13 ?_; intro w0 hrg0 hg0 hs0)
  go_frame
  generalize hnn : (e0 :: E).length = nn at hrg0
  clear hnn
  replace hsz3 := (show Hid _ from hsz3)
  generalize hR3 : W3.heap.size = R3 at hrg0 ⊢
  replace hR3 := (show Hid _ from hR3)
  go_loopw [5] (fun av wr => ∃ (left : Lit → Bool) (cnt : Nat) (an : Bool) (f l : Int × Int), av = .bool an ∧ FirR x.Ms R3 nn w.heap.size D (e0 :: E) w left cnt an f l wr) (fun _ wr => wr.rangeLeft x.Ms R3)
  case atStart =>
    have hb : Below W3.heap.size W3 w0 := ⟨hg0.os, hg0.tape, hg0.output, hg0.size, fun k hk => hg0.block k hk (by simp)⟩
    have hsz3' := hsz3.out
    have hR3' := hR3.out
    exact ⟨_, _, false, (0, 0), (0, 0), rfl, hrg0, by unfold FirI; rw [if_neg (by simp)]; exact hhas.out, (hb.block _ (by omega)).trans hR, (hb.block _ (by omega)).trans hF, (hb.block _ (by omega)).trans hL, hb3.trans (hb.mono hb3.size), by omega⟩
  case round =>
    clear hb3 hR hF hL hN3 h13 n0 n2 n3 n4 n5 n6 n7 n8 n9 n10 hrg0 hg0 hs0
    obtain ⟨left, cnt, an, f, l, rfl, hr⟩ := hrel
    go_wp2_with (at_next; refine wpList_next_ranges _ rfl _ rfl 261 tq_law memR encQ encM (fun key kl hk => by obtain ⟨q, hq, _⟩ := keyQ_inv hk; exact ⟨q, hq⟩) (fun v y hv => memR_shape hv) x.Ms R3 nn _ _ _ rfl hr.rg ?_ ?_)
    · intro hc0 hl0
      obtain rfl := hr.fi.done hl0 hasc
      obtain ⟨_, _, hr0, hf0, _, hbe, hsz⟩ := hr
      obtain ⟨c0, c1⟩ := hf0.cell
      obtain ⟨r0, r1⟩ := hr0.cell
      have z0 := hr0.free 0
      have z1 := hr0.free 1
      have hst := hr0.set e0.key
      have hbs : Below w.heap.size w ((wr.setCell ⟨w.heap.size, 0, none⟩ (.int .u32 e0.key.1)).setCell ⟨w.heap.size, 1, none⟩ (.int .u32 e0.key.2)) := (hbe.setCell (p := ⟨w.heap.size, 0, none⟩) (Nat.le_refl _) _).setCell (p := ⟨w.heap.size, 1, none⟩) (Nat.le_refl _) _
      clear hr0 hf0 hbe
      go_wp2
      generalize World.setCell _ _ _ = W9 at hst hbs ⊢
      obtain ⟨p0, p1⟩ := hst.cell
      exact bodyPost_ret (v := encQ e0.key) (by simp [results, Tryz.results178, go_sem, p0, p1, encQ]) rfl ⟨rfl, hbs⟩
    · intro q1 q2 m1 m2 kl yd yp w2 cnt2 hkey hlk hv hat hrg2 hlt hg2 hs2 hen
      obtain ⟨q', hq', hqo, rfl⟩ := keyQ_inv hkey
      obtain rfl : (q1, q2) = q' := encQ_inj hq'
      have h3x := (h3'.out _ hqo).2
      rw [hat] at h3x
      rw [memR_of] at hv
      have hyd := congrArg Prod.fst (Option.some.inj hv)
      dsimp only at hyd
      rw [← hyd] at h3x
      have hsome := (h3'.out _ hqo).1
      rw [has_true_of_atKey hat] at hsome
      obtain ⟨mm, hmm⟩ := Option.isSome_iff_exists.1 hsome.symm
      rw [hmm] at h3x
      have hme := datM_inj h3x
      simp only [Option.getD_some] at hme
      subst hme
      obtain ⟨e, he, hek, hee⟩ := h5'.out _ _ hqo hmm
      obtain ⟨rfl, rfl⟩ := Prod.mk.injEq .. ▸ hee
      have hrl := hr.rg.left_eq
      obtain ⟨_, hfi, hr0, hf0, hl0, hbe, hsz⟩ := hr
      have hR3' := (show Hid (R3 = w.heap.size + 3) from by show _ = _; rw [← hR3.out, hsz3.out])
      have hR3e := hR3'.out
      have hg2' : ∀ k, k < w.heap.size + 3 → w2.heap[k]? = wr.heap[k]? := fun k hk => hg2.block k (by omega) (by intro e; cases e; omega)
      have hB2 : Below w.heap.size w w2 := hbe.trans ⟨hg2.os, hg2.tape, hg2.output, hg2.size, fun k hk => hg2' k (by omega)⟩
      have k0 : QB w.heap.size (0, 0) w2 := (hg2' _ (by omega)).trans hr0
      have kf : QB (w.heap.size + 1) f w2 := (hg2' _ (by omega)).trans hf0
      have kl : MmB (w.heap.size + 2) l w2 := (hg2' _ (by omega)).trans hl0
      have hb4 : Below w2.heap.size w2 ((w2.alloc (qBox (q1, q2))).alloc (mBox (e.til, e.trn))) := ((Below.refl _ _).alloc (Nat.le_refl _) _).alloc (by simp) _
      have hQ4 : QB w2.heap.size (q1, q2) ((w2.alloc (qBox (q1, q2))).alloc (mBox (e.til, e.trn))) := (((Below.refl _ (w2.alloc (qBox (q1, q2)))).alloc (Nat.le_refl _) _).block _ (by simp)).trans (heap_alloc_new w2 _)
      have hM4 : MmB (w2.heap.size + 1) (e.til, e.trn) ((w2.alloc (qBox (q1, q2))).alloc (mBox (e.til, e.trn))) := by
        have := heap_alloc_new (w2.alloc (qBox (q1, q2))) (mBox (e.til, e.trn))
        rw [World.size_alloc] at this
        exact this
      have hme : Hid (cnt2 < wr.rangeLeft x.Ms R3) := by
        show _ < _
        rw [hrl]
        exact hlt
      have hrg4 := ranges_below hrg2 hb4
      have hs4 : w.heap.size + 4 ≤ ((w2.alloc (qBox (q1, q2))).alloc (mBox (e.til, e.trn))).heap.size := by simp; omega
      have j0 : QB w.heap.size (0, 0) ((w2.alloc (qBox (q1, q2))).alloc (mBox (e.til, e.trn))) := (hb4.block _ (by omega)).trans k0
      have jf : QB (w.heap.size + 1) f ((w2.alloc (qBox (q1, q2))).alloc (mBox (e.til, e.trn))) := (hb4.block _ (by omega)).trans kf
      have jl : MmB (w.heap.size + 2) l ((w2.alloc (qBox (q1, q2))).alloc (mBox (e.til, e.trn))) := (hb4.block _ (by omega)).trans kl
      have hB4 := hB2.trans (hb4.mono hB2.size)
      have hl2 : w.heap.size + 4 ≤ w2.heap.size := by omega
      clear hR3e k0 kf kl hb4 hrg2 hB2 hg2 hg2' hs2 hr0 hf0 hl0 hbe hat hv hyd h3x hmm hsome hkey hq'
      dsimp only [encQ, encM] at hen
      dsimp only [encQ, encM]
      dsimp only [qBox, mBox] at hQ4 hM4 hrg4 hs4 j0 jf jl hB4
      go_upto_region 6 with (fail)
      generalize World.alloc (World.alloc _ _) _ = W4 at hQ4 hM4 hrg4 hs4 j0 jf jl hB4 ⊢
      generalize w2.heap.size = C at hQ4 hM4 hl2 ⊢
      have hokE : ∀ z ∈ e0 :: E, QOk z.key := fun z hz => (hok z hz).1
      have hput : Hid (∀ W5, Below W4.heap.size W4 W5 → (if an then (if e.til = l.1 then e.trn < l.2 else e.til < l.1) else True) → FirR x.Ms R3 nn w.heap.size D (e0 :: E) w (fun z => left z && !z.sameKey (qLit (q1, q2))) cnt2 true (q1, q2) (e.til, e.trn) ((((W5.setCell ⟨w.heap.size + 1, 0, none⟩ (.int .u32 q1)).setCell ⟨w.heap.size + 1, 1, none⟩ (.int .u32 q2)).setCell ⟨w.heap.size + 1 + 1, 0, none⟩ (.int .u64 e.til)).setCell ⟨w.heap.size + 1 + 1, 1, none⟩ (.int .i64 e.trn)).drew) := fun W5 h5 hc => by
        have hz5 := h5.size
        refine FirR.put (p := (q1, q2)) (m := (e.til, e.trn)) (ranges_below hrg4 h5) ((h5.block _ (by omega)).trans j0) ((h5.block _ (by omega)).trans jf) ((h5.block _ (by omega)).trans jl) (hB4.trans (h5.mono hB4.size)) (by omega) hR3'.out hMsl ?_
        rw [← hek]
        refine hfi.yes hokE hasc he (by rw [hek]; exact hlk) fun h => ?_
        rw [if_pos h] at hc
        exact hc
      have hkeep : Hid (∀ W5, Below W4.heap.size W4 W5 → an = true → ¬ (if e.til = l.1 then e.trn < l.2 else e.til < l.1) → FirR x.Ms R3 nn w.heap.size D (e0 :: E) w (fun z => left z && !z.sameKey (qLit (q1, q2))) cnt2 true f l W5) := fun W5 h5 ha hc => by
        subst ha
        have hz5 := h5.size
        refine ⟨ranges_below hrg4 h5, ?_, (h5.block _ (by omega)).trans j0, (h5.block _ (by omega)).trans jf, (h5.block _ (by omega)).trans jl, hB4.trans (h5.mono hB4.size), by omega⟩
        rw [← hek]
        exact hfi.no hokE hasc he hc
      have hcl : Hid (∀ W5, Below W4.heap.size W4 W5 → QB C (q1, q2) W5 ∧ MmB (C + 1) (e.til, e.trn) W5 ∧ QB (w.heap.size + 1) f W5 ∧ MmB (w.heap.size + 2) l W5) := fun W5 h5 =>
        ⟨(h5.block _ (some_lt' hQ4)).trans hQ4, (h5.block _ (some_lt' hM4)).trans hM4, (h5.block _ (by omega)).trans jf, (h5.block _ (by omega)).trans jl⟩
      clear hokE hfi hrg4 j0 jf jl hB4 hs4 hasc hQ4 hM4
      cases an
      · obtain ⟨hQ4, hM4, jf, jl⟩ := hcl.out W4 (Below.refl _ _)
        obtain ⟨a0, a1⟩ := hQ4.cell
        obtain ⟨b0, b1⟩ := hM4.cell
        obtain ⟨d0, d1⟩ := jf.cell
        obtain ⟨g0, g1⟩ := jl.cell
        have y0 := jf.free 0
        have y1 := jf.free 1
        have y2 := jl.free 0
        have y3 := jl.free 1
        dsimp only at a0 a1 b0 b1
        have hF := hput.out W4 (Below.refl _ _) (by simp)
        clear hput hkeep hcl hQ4 hM4 jf jl
        go_wp2_with fail
        go_region
        generalize World.drew _ = W9 at hF ⊢
        go_wp2_with fail
        go_roundw
        case rel => exact ⟨_, cnt2, true, _, _, rfl, hF⟩
        case measure => rw [hF.rg.left_eq]; exact hme.out
      · obtain ⟨hQ4, hM4, jf, jl⟩ := hcl.out W4 (Below.refl _ _)
        obtain ⟨a0, a1⟩ := hQ4.cell
        obtain ⟨b0, b1⟩ := hM4.cell
        obtain ⟨d0, d1⟩ := jf.cell
        obtain ⟨g0, g1⟩ := jl.cell
        dsimp only at a0 a1 b0 b1
        clear hQ4 hM4 jf jl
        go_wp2_with fail
        refine Calls.mono (mahead_any (e.til, e.trn) l W4) ?_
        rintro r W5 ⟨rfl, hb5⟩
        clear a0 a1 b0 b1 d0 d1 g0 g1
        obtain ⟨hQ4, hM4, jf, jl⟩ := hcl.out W5 hb5
        obtain ⟨a0, a1⟩ := hQ4.cell
        obtain ⟨b0, b1⟩ := hM4.cell
        obtain ⟨d0, d1⟩ := jf.cell
        obtain ⟨g0, g1⟩ := jl.cell
        have y0 := jf.free 0
        have y1 := jf.free 1
        have y2 := jl.free 0
        have y3 := jl.free 1
        dsimp only at a0 a1 b0 b1
        by_cases hc : (if e.til = l.1 then e.trn < l.2 else e.til < l.1)
        · have hF := hput.out W5 hb5 (by rw [if_pos trivial]; exact hc)
          have hbt : (if e.til = l.1 then decide (e.trn < l.2) else decide (e.til < l.1)) = true := by
            split at hc <;> simp_all
          dsimp only
          rw [hbt]
          clear hput hkeep hcl hQ4 hM4 jf jl hc hbt
          go_wp2_with fail
          go_region
          generalize World.drew _ = W9 at hF ⊢
          go_wp2_with fail
          go_roundw
          case rel => exact ⟨_, cnt2, true, _, _, rfl, hF⟩
          case measure => rw [hF.rg.left_eq]; exact hme.out
        · have hF := hkeep.out W5 hb5 trivial hc
          have hbt : (if e.til = l.1 then decide (e.trn < l.2) else decide (e.til < l.1)) = false := by
            split at hc <;> simp_all
          dsimp only
          rw [hbt]
          clear hput hkeep hcl hQ4 hM4 jf jl hc hbt
          go_wp2_with fail
          go_roundw
          case rel => exact ⟨_, cnt2, true, _, _, rfl, hF⟩
          case measure => rw [hF.rg.left_eq]; exact hme.out

theorem filter_two {α : Type} (p : α → Bool) : ∀ l : List α, (l.filter p).length + (l.filter fun x => !p x).length = l.length
  | [] => rfl
  | x :: l => by
    have := filter_two p l
    cases h : p x <;> simp [h] <;> omega
/-- The map behind 'm[q] = ..'. -/
theorem SnM.put {Ms : Nat} {tn : Int} {E : List Mm} {W W' : World} {g : Int × Int → Option (Int × Int)} (h : SnM Ms tn E W) (h2 : ∀ e ∈ E, g e.key = some (e.til, e.trn)) (h3 : ∀ k m, QOk k → g k = some m → ∃ e ∈ E, e.key = k ∧ m = (e.til, e.trn)) {q : Int × Int} (hq : QOk q) {til : Int} (h0 : 0 ≤ til) (hm : ∀ e ∈ E, e.til ≤ til)
    (hM : MapQ W' Ms (updQ g q (some (til, tn))) (if (g q).isSome then E.length else E.length + 1)) :
    ∃ g', MapQ W' Ms g' (seenPut E q til tn).length ∧ (∀ e ∈ seenPut E q til tn, g' e.key = some (e.til, e.trn)) ∧ (∀ k m, QOk k → g' k = some m → ∃ e ∈ seenPut E q til tn, e.key = k ∧ m = (e.til, e.trn)) ∧ (∀ e ∈ seenPut E q til tn, QOk e.key ∧ 0 ≤ e.til ∧ 0 ≤ e.trn ∧ e.trn < tn + 1) ∧ (seenPut E q til tn).Pairwise (fun a b => a.til ≤ b.til ∧ a.trn < b.trn ∧ a.key ≠ b.key) ∧ (seenPut E q til tn).length ≤ 17 := by
  have hk : (⟨q.1, q.2, til, tn⟩ : Mm).key = q := rfl
  have htn := h.tn0
  have hmem : ∀ e, e ∈ seenPut E q til tn ↔ (e ∈ E ∧ e.key ≠ q) ∨ e = ⟨q.1, q.2, til, tn⟩ := by
    intro e
    unfold seenPut
    simp [List.mem_append, List.mem_filter]
  have hfl : (E.filter fun e => !decide (e.key = q)).length ≤ E.length := List.length_filter_le ..
  have hlen : (seenPut E q til tn).length = if (g q).isSome then E.length else E.length + 1 := by
    unfold seenPut
    rw [List.length_append, List.length_singleton]
    cases hg : g q with
    | none =>
      have : E.filter (fun e => !decide (e.key = q)) = E := List.filter_eq_self.2 fun e he => by
        have : e.key ≠ q := fun hc => by
          have := h2 e he
          rw [hc, hg] at this
          cases this
        simp [this]
      rw [this]
      simp
    | some m =>
      obtain ⟨e, he, hek, _⟩ := h3 q m hq hg
      have hcount : (E.filter fun e => decide (e.key = q)).length = 1 := by
        have hnd : (E.filter fun e => decide (e.key = q)).Pairwise (fun a b => a.key ≠ b.key) := (h.asc.imp fun h => h.2.2).filter _
        have hall : ∀ z ∈ E.filter (fun e => decide (e.key = q)), z.key = q := fun z hz => by simpa using (List.mem_filter.1 hz).2
        have hin : e ∈ E.filter (fun e => decide (e.key = q)) := List.mem_filter.2 ⟨he, by simpa using hek⟩
        generalize E.filter (fun e => decide (e.key = q)) = F at hnd hall hin ⊢
        match F, hnd, hall, hin with
        | [], _, _, hin => simp at hin
        | [_], _, _, _ => rfl
        | a :: b :: r, hnd, hall, _ =>
          exfalso
          have h1 := (List.pairwise_cons.1 hnd).1 b (List.mem_cons_self ..)
          exact h1 ((hall a (List.mem_cons_self ..)).trans (hall b (List.mem_cons_of_mem _ (List.mem_cons_self ..))).symm)
      have hsum := filter_two (fun e : Mm => decide (e.key = q)) E
      simp only [Option.isSome_some, if_true]
      omega
  refine ⟨_, by rw [hlen]; exact hM, fun e he => ?_, fun k m hk hg => ?_, fun e he => ?_, ?_, by rw [hlen]; have := h.len; split <;> omega⟩
  · rcases (hmem e).1 he with ⟨he, hne⟩ | rfl
    · simp only [updQ, if_neg hne]
      exact h2 e he
    · simp [updQ, Mm.key]
  · unfold updQ at hg
    split at hg
    · rename_i hkq
      subst hkq
      exact ⟨_, (hmem _).2 (.inr rfl), rfl, (Option.some.inj hg).symm⟩
    · rename_i hkq
      obtain ⟨e, he, hek, hm⟩ := h3 k m hk hg
      exact ⟨e, (hmem e).2 (.inl ⟨he, by rw [hek]; exact hkq⟩), hek, hm⟩
  · rcases (hmem e).1 he with ⟨he, _⟩ | rfl
    · have := h.ok e he
      exact ⟨this.1, this.2.1, this.2.2.1, by omega⟩
    · exact ⟨hq, h0, htn, by dsimp only; omega⟩
  · unfold seenPut
    refine List.pairwise_append.2 ⟨h.asc.filter _, by simp, fun a ha b hb => ?_⟩
    rw [List.mem_singleton] at hb
    subst hb
    obtain ⟨ha1, ha2⟩ := List.mem_filter.1 ha
    have := h.ok a ha1
    exact ⟨hm a ha1, this.2.2.2, by show a.key ≠ q; simpa using ha2⟩
/-- The map behind 'delete(m, first)'. -/
theorem snM_del {Ms : Nat} {tn : Int} {e0 : Mm} {E : List Mm} {W' : World} {g : Int × Int → Option (Int × Int)} (h2 : ∀ e ∈ e0 :: E, g e.key = some (e.til, e.trn)) (h3 : ∀ k m, QOk k → g k = some m → ∃ e ∈ e0 :: E, e.key = k ∧ m = (e.til, e.trn)) (hok : ∀ e ∈ e0 :: E, QOk e.key ∧ 0 ≤ e.til ∧ 0 ≤ e.trn ∧ e.trn < tn) (ha : (e0 :: E).Pairwise fun a b => a.til ≤ b.til ∧ a.trn < b.trn ∧ a.key ≠ b.key) (hl : (e0 :: E).length ≤ 17) (ht : 0 ≤ tn)
    (hM : MapQ W' Ms (updQ g e0.key none) ((e0 :: E).length - 1)) : SnM Ms tn E W' := by
  have hp := List.pairwise_cons.1 ha
  refine ⟨⟨_, hM, fun e he => ?_, fun k m hk hg => ?_⟩, fun e he => hok e (List.mem_cons_of_mem _ he), hp.2, by simpa using hl, ht⟩
  · have := (hp.1 e he).2.2
    simp only [updQ, if_neg (Ne.symm this)]
    exact h2 e (List.mem_cons_of_mem _ he)
  · unfold updQ at hg
    split at hg
    · cases hg
    · rename_i hne
      obtain ⟨e, he, hek, hm⟩ := h3 k m hk hg
      rcases List.mem_cons.1 he with rfl | he
      · exact absurd hek.symm hne
      · exact ⟨e, he, hek, hm⟩
end Go.Proofs.YtakaadcpaeiccabGreat

namespace Go.Proofs.YtakaadcpaeiccabGreat
open Go.RowKit Go.Maps

set_option maxRecDepth 100000 in
set_option maxHeartbeats 4000000 in
theorem seen_add (N : Nat) (x : NdV) (E : List Mm) (q : Int × Int) (hq : QOk q) (til : Int) (h0 : 0 ≤ til) (hm : ∀ e ∈ E, e.til ≤ til) (htn : x.tn ≤ 4611686018427387904) (w : World) (hN : NdB N x w) (hs : SnM x.Ms x.tn E w) :
    Calls Tryz.prog 156 #[.pointer (some ⟨N, 8, none⟩), encQ q, .int .u64 til] w fun e w' => e = .returned (.tuple #[]) ∧ NdB N { x with tn := x.tn + 1 } w' ∧ SnM x.Ms (x.tn + 1) (seenAdd E q til x.tn) w' ∧ Fx (fun k => k = N ∨ k = x.Ms) w w' := by
  obtain ⟨g, h1, h2, h3⟩ := hs.map
  have hl16 := hs.len
  have htn0 := hs.tn0
  have hNM : N ≠ x.Ms := fun e => by
    obtain ⟨es, cl, hM⟩ := hs.obj
    rw [← e, show w.heap[N]? = _ from hN] at hM
    cases hM
  have hb0 : Below w.heap.size w (w.alloc (qBox q)) := (Below.refl _ _).alloc (Nat.le_refl _) _
  have hC := heap_alloc_new w (qBox q)
  have hN1 := hN.later hb0
  have hg1 := h1.block (hb0.block _ h1.lt)
  have hF1 : Fx (fun k => k = N ∨ k = x.Ms) w (w.alloc (qBox q)) := Fx.below hb0
  have hCl : w.heap.size < (w.alloc (qBox q)).heap.size := by simp
  have hne : w.heap.size ≠ N ∧ w.heap.size ≠ x.Ms := ⟨fun e => by have := hN.lt; omega, fun e => by have := hs.lt; omega⟩
  have HP := (show Hid _ from fun W' hM => SnM.put (W' := W') hs h2 h3 hq h0 hm hM)
  clear hs hN h1 h2 h3 hm
  dsimp only [qBox] at hb0 hC hN1 hg1 hF1 hCl
  dsimp only [encQ]
  have hsa : Hid (seenAdd E q til x.tn = if 16 < (seenPut E q til x.tn).length then (seenPut E q til x.tn).tail else seenPut E q til x.tn) := rfl
  generalize seenAdd E q til x.tn = R at hsa ⊢
  go_enter Tryz.func156, Tryz.ntmps156
  go_upto_region 1 with (fail)
  generalize World.alloc _ _ = W1 at hb0 hC hN1 hg1 hF1 hCl ⊢
  generalize w.heap.size = C at hC hCl hne ⊢
  obtain ⟨n0, n2, n3, n4, n5, n6, n7, n8, n9, n10⟩ := hN1.cell
  have c0 : W1.cell? ⟨C, 0, none⟩ = some (.int .u32 q.1) := cell_of_row _ _ 0 _ _ _ hC
  have c1 : W1.cell? ⟨C, 1, none⟩ = some (.int .u32 q.2) := cell_of_row _ _ 1 _ _ _ hC
  obtain ⟨W3, hr3, hm3, hgr3⟩ := (show MapQ W1.drew _ _ _ from hg1).put (by unfold maxLen; omega) hq (til, x.tn)
  dsimp only [encQ, encM] at hr3
  have hgr3' : W1.grownBy W3 (some x.Ms) := ⟨hgr3.os, hgr3.tape, hgr3.output, hgr3.size, hgr3.block⟩
  have hN3 := hN1.kept hgr3' (by simpa using Ne.symm hNM)
  have hF3 := hF1.trans (Fx.grown (S := fun k => k = x.Ms) hgr3' (fun k e => by cases e; rfl)) (fun i _ h => .inr h)
  have hP3 := HP.out W3 hm3
  clear hg1 hN1 hF1 hm3 HP hC hb0
  go_region
  clear n0 n2 n3 n4 n5 n6 n7 n8 n9 n10 c0 c1 hr3 hgr3 hgr3'
  obtain ⟨g', k1, k2, k3, k4, k5, k6⟩ := hP3
  generalize seenPut E q til x.tn = L at k1 k2 k3 k4 k5 k6 hsa
  obtain ⟨n0, n2, n3, n4, n5, n6, n7, n8, n9, n10⟩ := hN3.cell
  have f9 := hN3.free 9
  have hg4 : W3.grownBy (W3.setCell ⟨N, 9, none⟩ (.int .i64 (x.tn + 1))) (some N) := grown_cellOf (grown_self _ (some N)) 9 _
  have hN4 := hN3.setTn (x.tn + 1)
  have k14 := k1.block (hg4.block _ k1.lt (by simpa using Ne.symm hNM))
  have hF4 := hF3.trans (Fx.grown (S := fun k => k = N) hg4 (fun k e => by cases e; rfl)) (fun i _ h => .inl h)
  have hwr : wrap64 (x.tn + 1) = x.tn + 1 := by unfold wrap64; omega
  clear hN3 k1 hF3 hg4
  go_upto_region 3 with (fail)
  generalize World.setCell _ _ _ = W4 at hN4 k14 hF4 ⊢
  clear n0 n2 n3 n4 n5 n6 n7 n8 n9 n10 f9 hwr
  obtain ⟨n0, n2, n3, n4, n5, n6, n7, n8, n9, n10⟩ := hN4.cell
  have hlen := fun ty => k14.len ty
  generalize hnl : L.length = nl at hlen
  replace hnl := (show Hid _ from hnl)
  by_cases hl : 16 < L.length
  · have hlb : decide ((16 : Int) < (nl : Int)) = true := decide_eq_true (by have := hnl.out; omega)
    have hR := hsa.out
    rw [if_pos hl] at hR
    subst hR
    obtain ⟨e0, L', rfl⟩ : ∃ e0 L', L = e0 :: L' := by
      cases L with
      | nil => simp at hl
      | cons a b => exact ⟨a, b, rfl⟩
    have HF : Hid (∀ W5, Below W4.heap.size W4 W5 → Calls Tryz.prog 178 #[.pointer (some ⟨N, 8, none⟩)] W5 fun e w' => e = .returned (encQ e0.key) ∧ Below W4.heap.size W4 w') := by
      intro W5 h5
      refine (first_any17 N { x with tn := x.tn + 1 } e0 L' W5 (hN4.later h5) ⟨_, k14.block (h5.block _ k14.lt), k2, k3⟩ k4 k5).mono ?_
      rintro e w' ⟨rfl, hb⟩
      exact ⟨rfl, h5.trans (hb.mono h5.size)⟩
    have HD : Hid (∀ W5, Below W4.heap.size W4 W5 → W5.cell? ⟨N, 8, none⟩ = some (.map (some x.Ms)) ∧ ∃ W6, (Builtin.delete_ #[111, 261] 0 #[.map (some x.Ms), encQ e0.key]).run Tryz.prog W5 = .ok (.tuple #[]) W6 ∧ W6.cell? ⟨N, 8, none⟩ = some (.map (some x.Ms)) ∧ NdB N { x with tn := x.tn + 1 } W6 ∧ SnM x.Ms (x.tn + 1) L' W6 ∧ Fx (fun k => k = N ∨ k = x.Ms) w W6) := by
      intro W5 h5
      have hM5 := k14.block (h5.block _ k14.lt)
      obtain ⟨W6, hr6, hm6, hg6⟩ := hM5.del (k4 e0 (List.mem_cons_self ..)).1 0 (by rw [k2 e0 (List.mem_cons_self ..)]; rfl)
      have hN6 := (hN4.later h5).kept hg6 (by simpa using Ne.symm hNM)
      exact ⟨(hN4.later h5).cell.2.2.2.2.2.1, W6, hr6, hN6.cell.2.2.2.2.2.1, hN6, snM_del k2 k3 k4 k5 k6 (by omega) hm6, (hF4.trans (Fx.below (S := fun _ => False) h5) (fun _ _ h => h.elim)).trans (Fx.grown (S := fun k => k = x.Ms) hg6 (fun k e => by cases e; rfl)) (fun i _ h => .inr h)⟩
    clear hN4 k14 hF4 k2 k3 k4 k5 k6 hl
    dsimp only [encQ] at HF HD
    go_wp2_with fail
    go_region_law (first
      | (go_simp; go_at_call 178; refine (HF.out _ (by first | exact Below.refl _ _ | exact (Below.refl _ _).drew | exact below_drewN (Below.refl _ _) _)).mono ?_; rintro e w5 ⟨rfl, hb5⟩; obtain ⟨hc5, W6, hr6, hc6, hN6, hS6, hF6⟩ := HD.out _ hb5))
    all_goals
      go_wp2
      go_returns
      exact ⟨rfl, hN6, hS6, hF6⟩
  · have hlb : decide ((16 : Int) < (nl : Int)) = false := decide_eq_false (by have := hnl.out; omega)
    have hR := hsa.out
    rw [if_neg hl] at hR
    replace hR := (show Hid _ from hR)
    have hfin : SnM x.Ms (x.tn + 1) L W4 := ⟨⟨g', k14, k2, k3⟩, k4, k5, by omega, by omega⟩
    clear k14 k2 k3 k4 k5 k6 hl
    go_wp2
    go_returns
    exact ⟨rfl, hN4, hR.out ▸ hfin, hF4⟩
end Go.Proofs.YtakaadcpaeiccabGreat

namespace Go.Proofs.YtakaadcpaeiccabGreat
open Go.RowKit Go.Maps
open Hp

/-- The map tells where each stands. -/
def PI (h : List Tm) (f : Int → Option Nat) : Prop :=
  (∀ i x, h[i]? = some x → f x.2.1 = some i) ∧ ∀ k i, f k = some i → ∃ x, h[i]? = some x ∧ x.2.1 = k
theorem PI.sw {h : List Tm} {f : Int → Option Nat} (p : PI h f) {i j : Nat} (hi : i < h.length) (hj : j < h.length) :
    PI (sw h i j) (upd (upd f (at' h j).2.1 (some i)) (at' h i).2.1 (some j)) := by
  have pi := p.1 i _ (at_get hi)
  have pj := p.1 j _ (at_get hj)
  have hs := at_sw hi hj
  constructor
  · intro k x hx
    have hk : k < h.length := by
      rcases Nat.lt_or_ge k (Hp.sw h i j).length with a | a
      · rw [sw_length] at a; exact a
      · rw [List.getElem?_eq_none a] at hx; cases hx
    have e := at_some hx
    rw [hs] at e
    by_cases h1 : k = j
    · rw [if_pos h1] at e
      rw [← e, h1]
      simp [upd]
    · rw [if_neg h1] at e
      by_cases h2 : k = i
      · rw [if_pos h2] at e
        rw [← e, h2]
        unfold upd
        by_cases h3 : (at' h j).2.1 = (at' h i).2.1
        · rw [h3, pi] at pj
          cases pj
          exact absurd h2 h1
        · rw [if_neg h3, if_pos rfl]
      · rw [if_neg h2] at e
        have pk := p.1 k _ (at_get hk)
        rw [e] at pk
        unfold upd
        by_cases h3 : x.2.1 = (at' h i).2.1
        · rw [h3, pi] at pk
          cases pk
          exact absurd rfl h2
        · rw [if_neg h3]
          by_cases h4 : x.2.1 = (at' h j).2.1
          · rw [h4, pj] at pk
            cases pk
            exact absurd rfl h1
          · rw [if_neg h4, pk]
  · intro k n hn
    unfold upd at hn
    have hl : (Hp.sw h i j).length = h.length := sw_length h i j
    by_cases h1 : k = (at' h i).2.1
    · rw [if_pos h1] at hn
      cases hn
      exact ⟨_, at_get (by omega), by rw [hs, if_pos rfl, h1]⟩
    · rw [if_neg h1] at hn
      by_cases h2 : k = (at' h j).2.1
      · rw [if_pos h2] at hn
        cases hn
        refine ⟨_, at_get (by omega), ?_⟩
        rw [hs, if_pos rfl]
        by_cases h3 : i = j
        · subst h3
          exact absurd h2 h1
        · rw [if_neg h3, h2]
      · rw [if_neg h2] at hn
        obtain ⟨x, hx, hk⟩ := p.2 k n hn
        have hnl : n < h.length := by
          rcases Nat.lt_or_ge n h.length with a | a
          · exact a
          · rw [List.getElem?_eq_none a] at hx; cases hx
        refine ⟨x, ?_, hk⟩
        rw [at_get (by omega), hs]
        have e := at_some hx
        rw [if_neg (by rintro rfl; rw [e] at h2; exact h2 hk.symm), if_neg (by rintro rfl; rw [e] at h1; exact h1 hk.symm), e]
theorem PI.add {h : List Tm} {f : Int → Option Nat} (p : PI h f) {x : Tm} (hx : f x.2.1 = none) : PI (h ++ [x]) (upd f x.2.1 (some h.length)) := by
  constructor
  · intro i y hy
    unfold upd
    by_cases hi : i < h.length
    · rw [List.getElem?_append_left hi] at hy
      have := p.1 i y hy
      rw [if_neg (fun e => by rw [e, hx] at this; cases this), this]
    · rw [List.getElem?_append_right (by omega)] at hy
      have : i - h.length = 0 := by
        rcases Nat.eq_zero_or_pos (i - h.length) with a | a
        · exact a
        · rw [List.getElem?_eq_none (by simp; omega)] at hy; cases hy
      rw [this] at hy
      simp at hy
      subst hy
      rw [if_pos rfl]
      congr 1
      omega
  · intro k i hk
    unfold upd at hk
    by_cases e : k = x.2.1
    · rw [if_pos e] at hk
      cases hk
      exact ⟨x, by simp, e.symm⟩
    · rw [if_neg e] at hk
      obtain ⟨y, hy, he⟩ := p.2 k i hk
      have hi : i < h.length := by
        rcases Nat.lt_or_ge i h.length with a | a
        · exact a
        · rw [List.getElem?_eq_none a] at hy; cases hy
      exact ⟨y, by rw [List.getElem?_append_left hi]; exact hy, he⟩
theorem PI.cut {h : List Tm} {f : Int → Option Nat} (p : PI h f) {n : Nat} (hn : h.length = n + 1) : PI (h.take n) (upd f (at' h n).2.1 none) := by
  have pn := p.1 n _ (at_get (by omega))
  constructor
  · intro i x hx
    rw [List.getElem?_take] at hx
    split at hx
    · rename_i hi
      have pi := p.1 i x hx
      unfold upd
      rw [if_neg (fun e => by rw [e, pn] at pi; cases pi; omega), pi]
    · cases hx
  · intro k i hk
    unfold upd at hk
    split at hk
    · cases hk
    · rename_i e
      obtain ⟨x, hx, he⟩ := p.2 k i hk
      refine ⟨x, ?_, he⟩
      rw [List.getElem?_take]
      split
      · exact hx
      · rename_i hi
        have hil : i < h.length := by
          rcases Nat.lt_or_ge i h.length with a | a
          · exact a
          · rw [List.getElem?_eq_none a] at hx; cases hx
        obtain rfl : i = n := by omega
        rw [at_some hx] at e
        exact absurd he.symm e

/-- Timers as cells. -/
def tmC (x : Tm) : List Value := [.int .u64 x.1, .int .i64 x.2.1, .int .i64 x.2.2]
def TC (h : List Tm) : List Value := h.flatMap tmC
theorem TC_length (h : List Tm) : (TC h).length = h.length * 3 := flat_length tmC 3 (fun _ => rfl) h
theorem TC_at {h : List Tm} {i : Nat} (hi : i < h.length) : (TC h)[i * 3]? = some (.int .u64 (at' h i).1) ∧ (TC h)[i * 3 + 1]? = some (.int .i64 (at' h i).2.1) ∧ (TC h)[i * 3 + 2]? = some (.int .i64 (at' h i).2.2) :=
  ⟨flat_at tmC 3 (by decide) (fun _ => rfl) h i 0 (by decide) (at_get hi), flat_at tmC 3 (by decide) (fun _ => rfl) h i 1 (by decide) (at_get hi), flat_at tmC 3 (by decide) (fun _ => rfl) h i 2 (by decide) (at_get hi)⟩
theorem TC_append (a b : List Tm) : TC (a ++ b) = TC a ++ TC b := by simp [TC]

/-- What a timer's numbers may be. -/
def TOk (x : Tm) : Prop := (0 ≤ x.1 ∧ x.1 < 18446744073709551616) ∧ I64 x.2.1 ∧ I64 x.2.2

/-- A block that is the struct of timers. -/
def TBk (T M : Nat) (last : Int) (v : Value) (W : World) : Prop := W.heap[T]? = some (.cells #[v, .map (some M), .int .i64 last] 165)
theorem TBk.cell {T M : Nat} {last : Int} {v : Value} {W : World} (h : TBk T M last v W) :
    W.cell? ⟨T, 0, none⟩ = some v ∧ W.cell? ⟨T, 1, none⟩ = some (.map (some M)) ∧ W.cell? ⟨T, 2, none⟩ = some (.int .i64 last) :=
  ⟨cell_of_row W T 0 _ _ _ h, cell_of_row W T 1 _ _ _ h, cell_of_row W T 2 _ _ _ h⟩
theorem TBk.free {T M : Nat} {last : Int} {v : Value} {W : World} (h : TBk T M last v W) (i : Nat) : W.frozen? ⟨T, i, none⟩ = false := by
  unfold TBk at h
  simp [World.frozen?, h]
theorem TBk.lt {T M : Nat} {last : Int} {v : Value} {W : World} (h : TBk T M last v W) : T < W.heap.size := (Array.getElem?_eq_some_iff.1 h).1

/-- Timers, laid in memory: the heap h, in the slice v. -/
structure TR (base T M : Nat) (last : Int) (h : List Tm) (v : Value) (W : World) : Prop where
  blk : TBk T M last v W
  row : W.ownsRow base 254 3 v h.length (TC h)
  map : ∃ f, MapI W M f h.length ∧ PI h f
  ok : ∀ x ∈ h, TOk x
  bT : base ≤ T
  bM : base ≤ M
theorem TR.shape {base T M : Nat} {last : Int} {h : List Tm} {v : Value} {W : World} (r : TR base T M last h v W) (h0 : 0 < h.length) : ∃ g cap, v = .slice (some ⟨g, 0, none⟩) h.length cap ∧ base ≤ g := by
  refine row_shape' r.row h0
/-- The blocks of timers are three. -/
theorem TR.apart {base T M : Nat} {last : Int} {h : List Tm} {v : Value} {W : World} (r : TR base T M last h v W) : T ≠ M ∧ some T ≠ v.ownBlock ∧ some M ≠ v.ownBlock := by
  have hb := r.blk
  obtain ⟨f, ⟨D, ⟨es, clock, hm, _⟩, _⟩, _⟩ := r.map
  refine ⟨?_, ?_, ?_⟩
  · rintro rfl
    unfold TBk at hb
    rw [hb] at hm
    cases hm
  · intro e
    rcases r.row.2 with ⟨rfl, _⟩ | ⟨g, cap, cur, rfl, _, hg, _⟩
    · simp [Value.ownBlock] at e
    · simp [Value.ownBlock] at e
      subst e
      unfold TBk at hb
      rw [hb] at hg
      simp at hg
  · intro e
    rcases r.row.2 with ⟨rfl, _⟩ | ⟨g, cap, cur, rfl, _, hg, _⟩
    · simp [Value.ownBlock] at e
    · simp [Value.ownBlock] at e
      subst e
      rw [hm] at hg
      cases hg

/-- What a call on timers may turn. -/
structure Fr (T M : Nat) (v : Value) (W W' : World) : Prop where
  os : W'.os = W.os
  tape : W'.tape = W.tape
  output : W'.output = W.output
  size : W.heap.size ≤ W'.heap.size
  block : ∀ k, k < W.heap.size → k ≠ T → k ≠ M → some k ≠ v.ownBlock → W'.heap[k]? = W.heap[k]?
theorem Fr.refl (T M : Nat) (v : Value) (W : World) : Fr T M v W W := ⟨rfl, rfl, rfl, Nat.le_refl _, fun _ _ _ _ _ => rfl⟩
theorem Fr.trans {T M : Nat} {v v' : Value} {W W1 W2 : World} (a : Fr T M v W W1) (b : Fr T M v' W1 W2) (hv : v'.ownBlock = v.ownBlock ∨ ∀ k, v'.ownBlock = some k → W.heap.size ≤ k) : Fr T M v W W2 := by
  refine ⟨b.os.trans a.os, b.tape.trans a.tape, b.output.trans a.output, Nat.le_trans a.size b.size, fun k hk h1 h2 h3 => ?_⟩
  rw [b.block k (Nat.lt_of_lt_of_le hk a.size) h1 h2 ?_]
  · exact a.block k hk h1 h2 h3
  · rcases hv with hv | hv
    · rw [hv]; exact h3
    · intro e
      have := hv k e.symm
      omega
theorem Fr.grown {T M : Nat} {v : Value} {W W' : World} {r : Option Nat} (h : W.grownBy W' r) (hr : r = none ∨ r = some T ∨ r = some M ∨ r = v.ownBlock) : Fr T M v W W' := by
  refine ⟨h.os, h.tape, h.output, h.size, fun k hk h1 h2 h3 => h.block k hk ?_⟩
  rcases hr with rfl | rfl | rfl | rfl
  · simp
  · simpa using h1
  · simpa using h2
  · exact h3
theorem Fr.below {base T M : Nat} {v : Value} {W W' : World} (h : Fr T M v W W') (hT : base ≤ T) (hM : base ≤ M) (hv : ∀ k, v.ownBlock = some k → base ≤ k) (hb : base ≤ W.heap.size) : Below base W W' :=
  ⟨h.os, h.tape, h.output, h.size, fun k hk => h.block k (by omega) (by omega) (by omega) (fun e => by have := hv k e.symm; omega)⟩
end Go.Proofs.YtakaadcpaeiccabGreat
