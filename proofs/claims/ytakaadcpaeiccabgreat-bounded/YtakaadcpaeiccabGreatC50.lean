import Derived.Test.YtakaadcpaeiccabGreatC49
import Derived.Deep.RegionWith
import Derived.BigQuiet
import Derived.Test.YtakaadcpaeiccabGreatC37
import Derived.Test.YtakaadcpaeiccabGreatC45
import Derived.Test.YtakaadcpaeiccabGreatC28
namespace Go.Proofs.YtakaadcpaeiccabGreat
open Go.RowKit Go.Maps

/-! A call of a station's node, in the mesh. -/
theorem MM.call {y : MG} {m : Msh} {W W' : World} (h : MM y m W) {i : Nat} {x : SG} {s : Stn} {z z' : St} {o : Value} (h1 : y.L[i]? = some x) (h2 : m.S[i]? = some s) (hz : s.nd = some z) (c : CallP x.N x.g z z' W o W') :
    ∃ frm cam drp, o = outV z'.jrn z'.rep frm cam drp ∧ OutR W.heap.size z'.frs z'.cms z'.drs frm cam drp W' ∧ MP y m (m.put i { s with nd := some z' }) W W' := by
  obtain ⟨g', TL', frm, cam, drp, rfl, nn, ht, r1, r2, r3, fx, sub⟩ := c
  have hst := h.st i x s h1 h2
  obtain ⟨n0, _⟩ := hst.nd z hz
  have hB : ¬ Ft x.N x.g z x.B := fun hk => by
    obtain ⟨o, ho, hK⟩ := n0.kind hk
    rw [hst.blk] at ho
    cases ho
    exact hK.not (by decide)
  have hJ : ∀ k, x.jv.ownBlock = some k → ¬ Ft x.N x.g z k := fun k hk hf => by
    obtain ⟨o, ho, hK⟩ := n0.kind hf
    obtain ⟨cc, hc⟩ := row_obj hst.row hk
    rw [hc] at ho
    cases ho
    exact hK.not (by decide)
  have hN : x.N = x.N := rfl
  refine ⟨frm, cam, drp, rfl, ⟨r1, r2, r3⟩, ?_⟩
  have ht := h.turn (W' := W') (x' := { x with g := g', TL := TL' }) (s' := { s with nd := some z' }) h1 h2 (fx.mono fun k hk => .inr (.inr ⟨z, hz, hk⟩)) ⟨?_, hst.hl, ?_, fun u hu => by cases hu; exact ⟨nn, ht⟩⟩ rfl fun k hk => ?_
  · exact ⟨_, ht.1, ht.2⟩
  · rw [show stC { x with g := g', TL := TL' } { s with nd := some z' } = stC x s by
      unfold stC
      rw [hz]
      rfl]
    exact (fx.block _ (some_lt hst.blk) hB).trans hst.blk
  · exact row_at hst.row fun k hk => fx.block k (hst.row.lt k hk).2 (hJ k hk)
  · rcases hk with hk | hk | ⟨u, hu, hk⟩
    · exact .inl (.inl hk)
    · exact .inl (.inr (.inl hk))
    · cases hu
      rcases sub k hk with h | h
      · exact .inl (.inr (.inr ⟨z, hz, h⟩))
      · exact .inr h
/-- A call that turns a station alone. -/
theorem MM.stp {y : MG} {m : Msh} {W W' : World} (h : MM y m W) {i : Nat} {x : SG} {s s' : Stn} (h1 : y.L[i]? = some x) (h2 : m.S[i]? = some s) (c : StP x s s' W W') : MP y m (m.put i s') W W' := by
  obtain ⟨x', b1, m1, f1, u1⟩ := c
  have ht := h.turn h1 h2 f1 m1 b1 u1
  exact ⟨_, ht.1, ht.2⟩
theorem MU.at {y y' : MG} {m m' : Msh} {w w' : World} (u : MU y m y' m' w w') {i : Nat} {x x' : SG} (h1 : y.L[i]? = some x) (h2 : y'.L[i]? = some x') : x'.B = x.B := by
  have e1 : (y.L.map (·.B))[i]? = some x.B := by rw [List.getElem?_map, h1]; rfl
  have e2 : (y'.L.map (·.B))[i]? = some x'.B := by rw [List.getElem?_map, h2]; rfl
  rw [← u.B, e2] at e1
  exact Option.some.inj e1
theorem MP.eq {y : MG} {m m' m'' : Msh} {w w' : World} (h : MP y m m' w w') (e : m' = m'') : MP y m m'' w w' := e ▸ h
/-- What hears a frame. -/
def hearsP (m : Msh) (i : Nat) (t : Int) (j : Nat) : Bool := (m.at' i).hrs.getD j false && (decide (t = 0) || decide (t = (m.at' j).addr))
/-- The frame has been told to the first k stations. -/
def sentTo (m : Msh) (i : Nat) (f : Int × ByteArray) (k : Nat) : Msh := ((List.range k).filter (hearsP m i f.1)).foldl (fun m j => m.launch (i, j, f.2)) m
theorem sentTo_succ (m : Msh) (i : Nat) (f : Int × ByteArray) (k : Nat) : sentTo m i f (k + 1) = if hearsP m i f.1 k then (sentTo m i f k).launch (i, k, f.2) else sentTo m i f k := by
  unfold sentTo
  rw [List.range_succ, List.filter_append, List.foldl_append]
  cases h : hearsP m i f.1 k <;> simp [h]
theorem sentTo_all (m : Msh) (i : Nat) (f : Int × ByteArray) : sentTo m i f m.S.length = m.sendF i f := rfl
theorem foldl_launch (i : Nat) (b : ByteArray) : ∀ (l : List Nat) (m : Msh), (l.foldl (fun m j => m.launch (i, j, b)) m).S = m.S ∧ (l.foldl (fun m j => m.launch (i, j, b)) m).now = m.now
  | [], m => ⟨rfl, rfl⟩
  | a :: l, m => by
    rw [List.foldl_cons]
    exact foldl_launch i b l (m.launch (i, a, b))
theorem sentTo_S (m : Msh) (i : Nat) (f : Int × ByteArray) (k : Nat) : (sentTo m i f k).S = m.S ∧ (sentTo m i f k).now = m.now := foldl_launch _ _ _ _
theorem at_of {m : Msh} {i : Nat} {s : Stn} (h : m.S[i]? = some s) : m.at' i = s := by
  unfold Msh.at'
  rw [List.getD_eq_getElem?_getD, h]
  rfl
theorem at_S {m m' : Msh} (h : m'.S = m.S) (i : Nat) : m'.at' i = m.at' i := by
  unfold Msh.at'
  rw [h]
theorem launch_air (m : Msh) (f : Nat × Nat × ByteArray) (h : m.air.length ≤ 48) : (m.launch f).air.length ≤ 48 := by
  unfold Msh.launch
  dsimp only
  split
  · rename_i h1
    rw [List.length_tail]
    rw [List.length_append] at h1 ⊢
    simp only [List.length_cons, List.length_nil] at h1 ⊢
    omega
  · rename_i h1
    omega
theorem foldl_air (i : Nat) (b : ByteArray) : ∀ (l : List Nat) (m : Msh), m.air.length ≤ 48 → (l.foldl (fun m j => m.launch (i, j, b)) m).air.length ≤ 48
  | [], _, h => h
  | a :: l, m, h => by
    rw [List.foldl_cons]
    exact foldl_air i b l _ (launch_air m _ h)
theorem sentTo_air (m : Msh) (i : Nat) (f : Int × ByteArray) (k : Nat) (h : m.air.length ≤ 48) : (sentTo m i f k).air.length ≤ 48 := foldl_air _ _ _ _ h
end Go.Proofs.YtakaadcpaeiccabGreat

namespace Go.Proofs.YtakaadcpaeiccabGreat
open Go.RowKit Go.Maps Go.MuLone

theorem brkL_bd (nxt : Int) {A : List Rt} (hA : ∀ y ∈ A, y.Ok) : ∀ x ∈ brkL nxt A, 0 ≤ x.1 ∧ x.1 < 4294967296 ∧ 0 ≤ x.2 ∧ x.2 < 4294967296 := by
  intro x hx
  obtain ⟨y, hy, e⟩ := List.mem_filterMap.1 hx
  unfold brkP at e
  split at e
  · cases e
    have h1 := (hA y hy).dest
    have h2 := gr_u32 (hA y hy).seq
    unfold U32 at h1 h2
    dsimp only
    omega
  · cases e
theorem N_rbroken {N B : Nat} {g : NdG} {s : St} {TL : List Hp.Tm} {w : World} (n : Nd N B g s TL w) (nxt : Int) :
    Calls Tryz.prog 138 #[.pointer (some ⟨g.x.T, 0, none⟩), .int .u32 nxt] w fun e w' => ∃ ao c, e = .returned (.slice ao (brkL nxt s.A).length c) ∧ HoldsA w' ao (brkL nxt s.A) ∧ NdP N B g s { s with A := s.A.map (loseF nxt 0) } TL w w' := by
  refine (Broken_any nxt n.nn.cr.tb (S := TIn g.x.T g.M g.ff g.gg s.A) (fun _ h => h) (fun k hk => n.nn.cr.tb.lt hk)).mono ?_
  rintro e w' ⟨v, gg', rfl, h1, h2, h3, h4⟩
  obtain ⟨ao, c, rfl, hH⟩ := told_list h1 (brkL_bd nxt n.nn.cr.tb.ok)
  exact ⟨ao, c, rfl, hH, n.tableP ⟨g.M, g.ff, gg', by rw [← n.nn.eq.self]; exact h2, fun k hk => .inl (h3 k hk)⟩ h4⟩
theorem sub_map (A : List Rt) (f : Rt → Rt) (hf : ∀ y, (f y).dest = y.dest) : ∀ y ∈ A, ∃ z ∈ A.map f, z.dest = y.dest := fun y hy => ⟨f y, List.mem_map.2 ⟨y, hy, rfl⟩, hf y⟩

set_option maxRecDepth 100000 in
set_option maxHeartbeats 8000000 in
theorem N_Broken {N : Nat} {g : NdG} {s : St} {TL : List Hp.Tm} {w : World} (n : Nn N g s TL w) {k : Int} (hI : s.Inv k) (hT : TmOk s TL) (now nxt : Int) (hnow : s.now ≤ now ∧ now ≤ 4611686018427387904) :
    Calls Tryz.prog 100 #[.pointer (some ⟨N, 0, none⟩), .int .u64 now, .int .u32 nxt] w fun e w' => ∃ o, e = .returned o ∧ Hid ((s.brk now nxt).Inv (k + 1)) ∧ CallP N g s (s.brk now nxt) w o w' := by
  have hA := n.cr.tb.ok
  have hl := n.cr.tb.len
  have hb0 : Below w.heap.size w (w.alloc outZ) := (Below.refl _ _).alloc (Nat.le_refl _) _
  have hC0 : (w.alloc outZ).heap[w.heap.size]? = some outZ := heap_alloc_new _ _
  have hCn : ¬ Ft N g s w.heap.size := fun h => by have := n.lt h; omega
  have hs0 : (w.alloc outZ).heap.size = w.heap.size + 1 := by simp
  have n0 := n.later hb0
  have hM := (mid_lock hI).2 now hnow hA hl
  obtain ⟨s3, hs3⟩ : ∃ z, s.locked.begin now = z := ⟨_, rfl⟩
  rw [hs3] at hM
  have hlk3 : Hid (s3.lk = 1) := by show _ = _; rw [← hs3]; rfl
  have hQ3 : Hid (s3.Q = s.Q) := by show _ = _; rw [← hs3]; rfl
  have hnow3 : Hid (s3.now = now) := by show _ = _; rw [← hs3]; rfl
  have hme3 : Hid (s3.me = s.me) := by show _ = _; rw [← hs3]; rfl
  replace hM := hide hM
  dsimp only [outZ] at hb0 hC0 hs0 n0
  go_enter_defers Tryz.func100, Tryz.ntmps100
  go_upto_region 1 with (fail)
  generalize World.alloc _ _ = W1 at hb0 hC0 hs0 n0 ⊢
  obtain ⟨c0, f0⟩ := n0.lkd
  rw [hI.lk] at c0
  go_wp2_with fail
  refine Calls.mono (lock_free muLib ⟨N, 0, none⟩ W1 c0 f0) ?_
  rintro e w2 ⟨rfl, rfl⟩
  obtain ⟨n2, hg2⟩ := n0.setLk 1
  have hf2 : Fx (Ft N g s) w (W1.setCell ⟨N, 0, none⟩ (.int .i32 1)) := grown_Fx (Fx.below hb0) hg2 (fun i _ e => by cases e; exact .inl (.inl rfl))
  have hC2 := (hg2.block w.heap.size (by omega) (fun e => hCn (by cases e; exact .inl (.inl rfl)))).trans hC0
  have hs2 : w.heap.size + 1 ≤ (W1.setCell ⟨N, 0, none⟩ (.int .i32 1)).heap.size := by
    have := hg2.size
    omega
  have hcn := hI.cnt
  have HB := hide (N_begin n2 now ⟨hI.dom.mb, hI.dom.on, hI.dom.own⟩ ⟨hcn.1, by dsimp only; omega⟩)
  rw [show ({ s with lk := 1 } : St).begin now = s3 from hs3] at HB
  have hF1 : Hid (∀ k, Ft N ({ g with x := { g.x with lk := 1 } } : NdG) ({ s with lk := 1 } : St) k → Ft N g s k) := fun k h => h
  replace hs3 := hide hs3
  clear n0 hC0 hs0 hb0 c0 f0 hg2 hA hl hcn
  generalize ({ g with x := { g.x with lk := 1 } } : NdG) = g1 at n2 HB hF1
  generalize ({ s with lk := 1 } : St) = s1 at n2 HB hF1
  generalize World.setCell _ _ _ = W2 at n2 hf2 hC2 hs2 HB ⊢
  go_wp2_with fail
  refine Calls.mono HB.out ?_
  rintro e w3 ⟨g3, rfl, n3, u3, fx3, t3⟩
  clear t3
  clear HB
  have hT3 : Hid (TmOk s3 TL) := by
    show TmOk _ _
    unfold TmOk
    rw [hQ3.out]
    exact hT
  have HR := hide (N_rbroken n3 nxt)
  have hbl := brkL_length nxt s3.A
  have hA8 := n3.nn.cr.tb.len
  obtain ⟨c2, c3, c4, c7, c0⟩ := n3.cell
  obtain ⟨s4, hs4⟩ : ∃ z, ({ s3 with A := s3.A.map (loseF nxt 0) } : St) = z := ⟨_, rfl⟩
  have he4 : Hid (Eff 0 s3 s4) := by
    show Eff 0 s3 s4
    rw [← hs4]
    exact eff_A s3 (sub_map _ _ (loseF_dest nxt 0))
  rw [hs4] at HR
  replace hs4 := hide hs4
  have hfrs : Hid (s4.frs.length ≤ 1000000) := by
    show _ ≤ _
    have := he4.out.frs
    have := hM.out.frs
    omega
  clear fx3 n2 n3
  go_wp2_with fail
  refine Calls.mono HR.out ?_
  rintro e w4 ⟨ao, c, rfl, hH, g4, n4, u4, t4⟩
  have HL := hide (N_lose n4 0 ao c (brkL nxt s3.A) (by omega) hH hfrs.out)
  have ua4 := u3.trans u4
  clear HR c2 c3 c4 c7 c0 n4 u4 hH u3
  go_wp2_with fail
  refine Calls.mono HL.out ?_
  rintro e w5 ⟨rfl, g5, n5, u5, t5⟩
  obtain ⟨s5, hs5⟩ : ∃ z, s4.lose 0 (brkL nxt s3.A) = z := ⟨_, rfl⟩
  have he5 : Hid (Eff 1 s4 s5) := by
    show Eff 1 s4 s5
    rw [← hs5]
    exact eff_lose _ _ _
  rw [hs5] at n5 u5
  have hT5 : Hid (TmOk s5 TL) := by
    show TmOk _ _
    unfold TmOk
    rw [← hs5, ← hs4.out]
    exact hT3.out
  have hM5 : Hid (s5.Mid k 2) := mid_eff (mid_eff hM.out he4.out) he5.out
  have hlk5 : Hid (s5.lk = 1) := (he5.out.lk.trans he4.out.lk).trans hlk3.out
  have ua5 := ua4.trans u5
  replace hs5 := hide hs5
  clear HL u5 ua4 he4 he5 hfrs hbl hA8
  have hI5 := hide (inv_freed hM5.out (by omega) n5.nn.cr.tb.ok n5.nn.cr.tb.len)
  have HFn := hide (N_finish n5 hM5.out.dom (by have := hM5.out.cnt; omega) (by have := hM5.out.nws; omega) hM5.out.bd hM5.out.seq)
  go_wp2_with fail
  refine Calls.mono HFn.out ?_
  rintro e w6 ⟨g6, rfl, n6, u6, t6⟩
  obtain ⟨s6, hs6⟩ : ∃ z, s5.finish = z := ⟨_, rfl⟩
  have hlk6 : s6.lk = 1 := by rw [← hs6, (finish_same s5).lk]; exact hlk5.out
  have hT6 : Hid (TmOk s6 TL) := by
    show TmOk _ _
    unfold TmOk
    rw [← hs6, (finish_same s5).Q]
    exact hT5.out
  have hfinal : Hid (s.brk now nxt = s6.freed) := by
    show _ = _
    rw [← hs6]
    unfold St.brk St.broken
    rw [hs3.out]
    dsimp only
    rw [hs4.out, hs5.out]
  rw [hs6] at n6 u6 hI5 ⊢
  have ua6 := ua5.trans u6
  clear HFn hs6 u6 n5 ua5
  have fx6 := ua6.toFx (Nat.le_refl _)
  have hsub6 : ∀ k, Ft N g6 s6 k → Ft N g s k ∨ (w.heap.size ≤ k ∧ k < w6.heap.size) := fun k hk => (ua6.sub k hk).elim (fun h => .inl (hF1.out k h)) fun h => .inr ⟨by omega, h.2⟩
  have hC6 := (fx6.block w.heap.size (by omega) (fun h => hCn (hF1.out _ h))).trans hC2
  have hCn6 : ¬ Ft N g6 s6 w.heap.size := fun h => (ua6.sub _ h).elim (fun h => hCn (hF1.out _ h)) (by omega)
  have hf6 := hf2.trans fx6 (fun i _ h => hF1.out i h)
  have r1 := ownsRow_base_a n6.ac.frm (show w.heap.size ≤ W2.heap.size + 1 by omega)
  have r2 := ownsRow_base_a n6.ac.cam (show w.heap.size ≤ W2.heap.size + 1 by omega)
  have r3 := ownsRow_base_a n6.ac.drp (show w.heap.size ≤ W2.heap.size + 1 by omega)
  have m6 := n6.nn
  obtain ⟨af, kf, hf, _⟩ := row_form r1
  obtain ⟨ac, kc, hc, _⟩ := row_form r2
  obtain ⟨ad, kd, hdd, _⟩ := row_form r3
  rw [hf] at r1
  rw [hc] at r2
  rw [hdd] at r3
  rw [hf, hc, hdd]
  simp only [outV]
  clear n6 hf hc hdd ua6 fx6 hf2 hC2
  generalize hjj : s6.jrn = jj
  replace hjj := hide hjj
  have z0 : w6.cell? ⟨w.heap.size, 0, none⟩ = some (.string ⟨#[]⟩) := cell_of_row _ _ 0 _ _ _ hC6
  have z1 : w6.cell? ⟨w.heap.size, 1, none⟩ = some (.bool false) := cell_of_row _ _ 1 _ _ _ hC6
  have z2 : w6.cell? ⟨w.heap.size, 2, none⟩ = some (.slice none 0 0) := cell_of_row _ _ 2 _ _ _ hC6
  have z3 : w6.cell? ⟨w.heap.size, 3, none⟩ = some (.slice none 0 0) := cell_of_row _ _ 3 _ _ _ hC6
  have z4 : w6.cell? ⟨w.heap.size, 4, none⟩ = some (.slice none 0 0) := cell_of_row _ _ 4 _ _ _ hC6
  have y0 := frozen_of_row w6 w.heap.size 0 _ _ hC6
  have y1 := frozen_of_row w6 w.heap.size 1 _ _ hC6
  have y2 := frozen_of_row w6 w.heap.size 2 _ _ hC6
  have y3 := frozen_of_row w6 w.heap.size 3 _ _ hC6
  have y4 := frozen_of_row w6 w.heap.size 4 _ _ hC6
  have hgC := grown_cellOf (grown_cellOf (grown_cellOf (grown_cellOf (grown_cellOf (grown_self w6 (some w.heap.size)) 0 (.string jj)) 1 (.bool s6.rep)) 2 (.slice af s6.frs.length kf)) 3 (.slice ac s6.cms.length kc)) 4 (.slice ad s6.drs.length kd)
  have hC7 : (((((w6.setCell ⟨w.heap.size, 0, none⟩ (.string jj)).setCell ⟨w.heap.size, 1, none⟩ (.bool s6.rep)).setCell ⟨w.heap.size, 2, none⟩ (.slice af s6.frs.length kf)).setCell ⟨w.heap.size, 3, none⟩ (.slice ac s6.cms.length kc)).setCell ⟨w.heap.size, 4, none⟩ (.slice ad s6.drs.length kd)).heap[w.heap.size]? = some (.cells #[.string jj, .bool s6.rep, .slice af s6.frs.length kf, .slice ac s6.cms.length kc, .slice ad s6.drs.length kd] 52) := by
    simp [World.setCell, Array.getElem?_modify, hC6]
  have r1 := r1.kept hgC (.inr (row_not r1 hC6 (fun c e => (by cases e))))
  have r2 := r2.kept hgC (.inr (row_not r2 hC6 (fun c e => (by cases e))))
  have r3 := r3.kept hgC (.inr (row_not r3 hC6 (fun c e => (by cases e))))
  have m7 := m6.kept fun k hk => hgC.block k (m6.lt hk) (fun e => hCn6 (by cases e; exact hk))
  have hf7 := grown_Fx hf6 hgC (fun i hi e => by cases e; omega)
  have hsub7 := fun k hk => (hsub6 k hk).imp_right fun h => (⟨h.1, Nat.lt_of_lt_of_le h.2 hgC.size⟩ : w.heap.size ≤ k ∧ _)
  clear m6 hgC hf6 hC6 hsub6
  go_wp2_with fail
  generalize World.setCell _ _ _ = W7 at hC7 r1 r2 r3 m7 hf7 hsub7 ⊢
  have p0 : W7.cell? ⟨w.heap.size, 0, none⟩ = some (.string jj) := cell_of_row _ _ 0 _ _ _ hC7
  have p1 : W7.cell? ⟨w.heap.size, 1, none⟩ = some (.bool s6.rep) := cell_of_row _ _ 1 _ _ _ hC7
  have p2 : W7.cell? ⟨w.heap.size, 2, none⟩ = some (.slice af s6.frs.length kf) := cell_of_row _ _ 2 _ _ _ hC7
  have p3 : W7.cell? ⟨w.heap.size, 3, none⟩ = some (.slice ac s6.cms.length kc) := cell_of_row _ _ 3 _ _ _ hC7
  have p4 : W7.cell? ⟨w.heap.size, 4, none⟩ = some (.slice ad s6.drs.length kd) := cell_of_row _ _ 4 _ _ _ hC7
  obtain ⟨c0, f0⟩ := m7.lkd
  rw [hlk6] at c0
  refine leaves_cons (f := 50) (args := #[.pointer (some ⟨N, 0, none⟩)]) (by simp) (by simp [go_sem]) ?_
  refine (unlock_deferred muLib ⟨N, 0, none⟩ .returning W7 c0 f0).mono ?_
  rintro e u' w'' ⟨rfl, rfl, rfl⟩
  obtain ⟨m8, hg8⟩ := m7.setLk 0
  have hNw : N ≠ w.heap.size := fun e => hCn6 (by rw [← e]; exact .inl (.inl rfl))
  have hC8 := (hg8.block w.heap.size (some_lt hC7) (fun e => by cases e; exact hNw rfl)).trans hC7
  have r1 := r1.kept hg8 (.inr (row_not r1 m7.cr.nd (fun c e => (by cases e))))
  have r2 := r2.kept hg8 (.inr (row_not r2 m7.cr.nd (fun c e => (by cases e))))
  have r3 := r3.kept hg8 (.inr (row_not r3 m7.cr.nd (fun c e => (by cases e))))
  have hf8 := grown_Fx hf7 hg8 (fun i hi e => by cases e; exact .inl (.inl rfl))
  have hsub8 := fun k hk => (hsub7 k hk).imp_right fun h => (⟨h.1, Nat.lt_of_lt_of_le h.2 hg8.size⟩ : w.heap.size ≤ k ∧ _)
  clear p0 p1 p2 p3 p4 c0 f0 hg8 m7 hf7 hsub7 hC7
  generalize World.setCell _ _ _ = W8 at hC8 r1 r2 r3 m8 hf8 hsub8 ⊢
  have p0 : W8.cell? ⟨w.heap.size, 0, none⟩ = some (.string jj) := cell_of_row _ _ 0 _ _ _ hC8
  have p1 : W8.cell? ⟨w.heap.size, 1, none⟩ = some (.bool s6.rep) := cell_of_row _ _ 1 _ _ _ hC8
  have p2 : W8.cell? ⟨w.heap.size, 2, none⟩ = some (.slice af s6.frs.length kf) := cell_of_row _ _ 2 _ _ _ hC8
  have p3 : W8.cell? ⟨w.heap.size, 3, none⟩ = some (.slice ac s6.cms.length kc) := cell_of_row _ _ 3 _ _ _ hC8
  have p4 : W8.cell? ⟨w.heap.size, 4, none⟩ = some (.slice ad s6.drs.length kd) := cell_of_row _ _ 4 _ _ _ hC8
  refine ⟨.agg #[.string jj, .bool s6.rep, .slice af s6.frs.length kf, .slice ac s6.cms.length kc, .slice ad s6.drs.length kd], by simp [results, Tryz.results100, go_sem, p0, p1, p2, p3, p4], _, rfl, ?_⟩
  rw [hfinal.out]
  refine ⟨hI5, _, TL, .slice af s6.frs.length kf, .slice ac s6.cms.length kc, .slice ad s6.drs.length kd, ?_, m8, hT6.out, r1, r2, r3, hf8, hsub8⟩
  rw [← hjj.out]
  rfl
end Go.Proofs.YtakaadcpaeiccabGreat

namespace Go.Proofs.YtakaadcpaeiccabGreat
open Go.RowKit Go.Maps

/-! Rated: what holds from call to call. -/
structure RQ (N : Nat) (w : World) (g : NdG) (s : St) (TL : List Hp.Tm) (m : Int) (g1 : Nat) (o1 : Obj) (us : List Int) (sv : Value) (W : World) : Prop where
  nn : Nn N g s TL W
  tm : TmOk s TL
  inv : s.Inv m
  pos : s.Pos
  row : W.ownsRow w.heap.size 35 1 sv us.length (us.map (Value.int .u64))
  off : ∀ k, sv.ownBlock = some k → ¬ Ft N g s k
  lb : W.heap[g1]? = some o1
  lo : ¬ Ft N g s g1
  ko : ∀ c, o1 ≠ .cells c 35 (0, 0)
  low : ∀ k, Ft N g s k → w.heap.size ≤ k
  below : Below w.heap.size w W
theorem RQ.later {N : Nat} {w : World} {g : NdG} {s : St} {TL : List Hp.Tm} {m : Int} {g1 : Nat} {o1 : Obj} {us : List Int} {sv : Value} {W W' : World} (h : RQ N w g s TL m g1 o1 us sv W) (hb : Below W.heap.size W W') : RQ N w g s TL m g1 o1 us sv W' :=
  ⟨h.nn.later hb, h.tm, h.inv, h.pos, row_at h.row fun k hk => hb.block k (h.row.lt k hk).2, h.off, (hb.block g1 (some_lt h.lb)).trans h.lb, h.lo, h.ko, h.low, h.below.trans (hb.mono h.below.size)⟩
theorem RQ.turn {N : Nat} {w : World} {g g' : NdG} {s s' : St} {TL TL' : List Hp.Tm} {m m' : Int} {g1 : Nat} {o1 : Obj} {us : List Int} {sv : Value} {W W' : World} (h : RQ N w g s TL m g1 o1 us sv W) (nn' : Nn N g' s' TL' W') (tm' : TmOk s' TL') (hI : s'.Inv m') (hp : s'.Pos) (fx : Fx (Ft N g s) W W') (sub : ∀ k, Ft N g' s' k → Ft N g s k ∨ (W.heap.size ≤ k ∧ k < W'.heap.size)) : RQ N w g' s' TL' m' g1 o1 us sv W' := by
  have h1 := some_lt h.lb
  have h2 := h.below.size
  refine ⟨nn', tm', hI, hp, row_at h.row fun k hk => fx.block k (h.row.lt k hk).2 (h.off k hk), fun k hk hf => ?_, (fx.block g1 h1 h.lo).trans h.lb, fun hf => ?_, h.ko, fun k hk => ?_, h.below.trans (fx.toBelow h.below.size fun j hj hf => by have := h.low j hf; omega)⟩
  · rcases sub k hf with e | e
    · exact h.off k hk e
    · have := (h.row.lt k hk).2
      omega
  · rcases sub g1 hf with e | e
    · exact h.lo e
    · omega
  · rcases sub k hk with e | e
    · exact h.low k e
    · omega
theorem inv_up {k k' : Int} {s : St} (h : s.Inv k) (hk : k ≤ k') : s.Inv k' :=
  ⟨h.me, h.seq, h.now, h.mem, h.dom, h.cnt, by have := h.tn; omega, by have := h.tl; omega, h.lk, h.pcl, h.pcs, h.pcn, h.qid, h.bd, h.nwl, h.frl, h.cml, h.drl⟩
theorem RQ.up {N : Nat} {w : World} {g : NdG} {s : St} {TL : List Hp.Tm} {m m' : Int} {g1 : Nat} {o1 : Obj} {us : List Int} {sv : Value} {W : World} (h : RQ N w g s TL m g1 o1 us sv W) (hm : m ≤ m') : RQ N w g s TL m' g1 o1 us sv W :=
  ⟨h.nn, h.tm, inv_up h.inv hm, h.pos, h.row, h.off, h.lb, h.lo, h.ko, h.low, h.below⟩
/-- 'append' of a row onto a row of the call's own, for the walk. -/
theorem wpList_append_rows {P : Program} {w : World} {ops : Array Oper} {rest : List Oper} {o : Oper} {a : Act} {Q : Exit → Act → World → Prop} (hg : o.guard = none) (s x : Operand) (t : TypeId) (hop : o.op = Op.call { callee := Callee.builtin Builtin.append, args := #[s, x], argTypes := #[t, t] })
    (base : Nat) (e : TypeId) (i : TypeInfo) (z : Value) (size bytes : Nat) (h1 : P.underlying t = some (.slice e)) (h2 : P.info? e = some i) (h3 : i.zero = some z) (h4 : i.size = size) (h5 : i.bytes = bytes) (h6 : z.cells.size = size) (h7 : 0 < size)
    (v : Value) (n : Nat) (xs : List Value) (hs : a.eval s = v) (hown : w.ownsRow base e size v n xs)
    (base2 : Nat) (v2 : Value) (m : Nat) (ys : List Value) (hx : a.eval x = v2) (hown2 : w.ownsRow base2 e size v2 m ys) (h1c : ∀ u ∈ ys, u.oneCell' = true)
    (b1 : n + m ≤ maxLen) (b2 : (n + m) * bytes ≤ 140737488355328) (hbase : base ≤ w.heap.size)
    (hK : ∀ v' w', w'.ownsRow base e size v' (n + m) (xs ++ ys) → w.grownBy w' v.ownBlock → wpList P ops Q rest (a.put o.dst v') w') :
    wpList P ops Q (o :: rest) a w := by
  refine wpList_plain hg fun K hKK => ?_
  have h := step_append_rows (ops := ops) (E := True) (K := K) (Q := Q) hg s x t hop base e i z size bytes h1 h2 h3 h4 h5 h6 h7 v n xs hs hown base2 v2 m ys hx hown2 h1c b1 b2 hbase fun v' w' k1 k2 => hKK _ _ (hK v' w' k1 k2)
  have hw : Region.wanted o (yielded ops a.tmps) = true := by simp [Region.wanted, hg]
  rw [if_pos hw] at h
  exact h
theorem wrap1 {h : Nat} (hb : h < 1000000000) : wrap64 ((h : Int) + 1) = (h : Int) + 1 := by unfold wrap64; omega
theorem meas_lt {l h : Nat} (hh : h < l) : l - (intOf (.int .i64 ((h : Int) + 1))).toNat < l - (intOf (.int .i64 (h : Int))).toNat := by
  simp [intOf]
  omega
/-- The numbers of a round. -/
structure RN (k : Nat) (nw : Int) (s : St) (ts : List Int) : Prop where
  n0 : 0 ≤ nw
  n1 : nw ≤ 5000 * k
  tim : s.now ≤ nw
  len : ts.length ≤ 5001 * k
  ql : s.Q.length ≤ k
  beg : k = 0 → ts = [] ∧ s.Q = []
  some : 0 < k → 0 < ts.length
  pos : ∀ t ∈ ts, 0 ≤ t
theorem RN.next {k : Nat} {nw now : Int} {s s5 : St} {ts : List Int} {m : Nat} (h : RN k nw s ts) (h0 : nw ≤ now) (h1 : now ≤ nw + 5000) (ht : s5.now ≤ now) (hm : m ≤ 5001) (hq : s5.Q.length ≤ k + 1) (hf : k = 0 → 0 < m) : RN (k + 1) now s5 (ts ++ List.replicate m now) := by
  have a := h.n0
  have b := h.n1
  have c := h.len
  refine ⟨by omega, by omega, ht, by rw [List.length_append, List.length_replicate]; omega, hq, fun e => by omega, fun _ => ?_, fun t ht => ?_⟩
  · rw [List.length_append, List.length_replicate]
    by_cases e : k = 0
    · have := hf e
      omega
    · have := h.some (by omega)
      omega
  · rcases List.mem_append.1 ht with e | e
    · exact h.pos t e
    · rw [(List.mem_replicate.1 e).2]
      omega
/-- What no call of the node turns. -/
theorem RQ.keep {N : Nat} {g : NdG} {s : St} {W W' : World} (fx : Fx (Ft N g s) W W') {k : Nat} {o : Obj} (hk : W.heap[k]? = some o) (hn : ¬ Ft N g s k) : W'.heap[k]? = some o := (fx.block k (some_lt hk) hn).trans hk

theorem RQ.other {N : Nat} {w : World} {g : NdG} {s : St} {TL : List Hp.Tm} {m : Int} {g1 : Nat} {o1 : Obj} {us : List Int} {sv : Value} {W W' : World} (h : RQ N w g s TL m g1 o1 us sv W) {S : Nat → Prop} (fx : Fx S W W') (h1 : ∀ k, S k → ¬ Ft N g s k) (h2 : ∀ k, S k → sv.ownBlock ≠ some k) (h3 : ¬ S g1) (h4 : ∀ k, S k → w.heap.size ≤ k) : RQ N w g s TL m g1 o1 us sv W' :=
  ⟨h.nn.kept fun k hk => fx.block k (h.nn.lt hk) (fun e => h1 k e hk), h.tm, h.inv, h.pos, row_at h.row fun k hk => fx.block k (h.row.lt k hk).2 (fun e => h2 k e hk), h.off, (fx.block g1 (some_lt h.lb) h3).trans h.lb, h.lo, h.ko, h.low, h.below.trans (fx.toBelow h.below.size fun j hj hf => by have := h4 j hf; omega)⟩
theorem HoldsC.blk {W W' : World} {g : Nat} {cs : List Value} (h : HoldsC W (some ⟨g, 0, none⟩) cs) {o : Obj} (h1 : W.heap[g]? = some o) (h2 : W'.heap[g]? = some o) : HoldsC W' (some ⟨g, 0, none⟩) cs := by
  intro j u hj
  obtain ⟨b, o', e, h3, h4⟩ := h j u hj
  simp only [Option.some.injEq, Addr.mk.injEq, and_true] at e
  obtain ⟨rfl, rfl⟩ := e
  refine ⟨g, 0, rfl, some_lt h2, ?_⟩
  unfold World.cell? at h4 ⊢
  rw [show W'.heap[(⟨g, 0 + j, none⟩ : Addr).block]? = some o from h2]
  rw [show W.heap[(⟨g, 0 + j, none⟩ : Addr).block]? = some o from h1] at h4
  exact h4
end Go.Proofs.YtakaadcpaeiccabGreat

namespace Go.Proofs.YtakaadcpaeiccabGreat
open Go.RowKit Go.Maps

/-! One frame goes out. -/
/-- What is done when 'Broken' has been told. -/
def DidP (y : MG) (m m' : Msh) (evs : List Ev) (b : Nat) (w : World) (e : Ending) (w' : World) : Prop := ∃ v L, e = .returned v ∧ L.map (·.1) = evs ∧ EvsM b v L w' ∧ MP y m m' w w'

set_option maxRecDepth 100000 in
set_option maxHeartbeats 8000000 in
theorem M_sendFrame {y : MG} {m : Msh} {w : World} (h : MM y m w) (i : Nat) (hi : i < m.S.length) (hn : m.S.length ≤ 6) (ha : m.air.length ≤ 48) (f : Int × ByteArray)
    (hI : ∀ z, (m.at' i).nd = some z → ∃ k, z.Inv k ∧ z.now ≤ m.now) (hnow : m.now ≤ 4611686018427387904)
    (HD : f.1 ≠ 0 → ∀ z, ((m.sendF i f).at' i).nd = some z → ∀ y1 w1 b frm cam drp, MM y1 ((m.sendF i f).put i { (m.sendF i f).at' i with nd := some (z.brk m.now f.1) }) w1 → b ≤ w1.heap.size → OutR b (z.brk m.now f.1).frs (z.brk m.now f.1).cms (z.brk m.now f.1).drs frm cam drp w1 →
      Calls Tryz.prog 36 #[.pointer (some ⟨y1.G, 0, none⟩), .int .i64 i, outV (z.brk m.now f.1).jrn (z.brk m.now f.1).rep frm cam drp] w1 (DidP y1 ((m.sendF i f).put i { (m.sendF i f).at' i with nd := some (z.brk m.now f.1) }) (((m.sendF i f).put i { (m.sendF i f).at' i with nd := some (z.brk m.now f.1) }).didB i (z.brk m.now f.1).ot).1 (((m.sendF i f).put i { (m.sendF i f).at' i with nd := some (z.brk m.now f.1) }).didB i (z.brk m.now f.1).ot).2 b w1)) :
    Calls Tryz.prog 67 #[.pointer (some ⟨y.G, 0, none⟩), .int .i64 i, .agg #[.int .u32 f.1, .string f.2]] w (DidP y m (m.out1 i f).1 (m.out1 i f).2 w.heap.size w) := by
  obtain ⟨t, s⟩ := f
  dsimp only at HD ⊢
  have hb0 : Below w.heap.size w (w.alloc (.cells #[.int .u32 t, .string s] 77)) := (Below.refl _ _).alloc (Nat.le_refl _) _
  have hC := heap_alloc_new w (.cells #[.int .u32 t, .string s] 77)
  have h1 := h.later hb0
  obtain ⟨xi, si, g0, c0, e1, e2, e3, e4, p0⟩ := h1.get hi
  obtain ⟨q0, q1, q2, fz⟩ := h1.cell
  rw [e4] at q1
  have hin : (i : Int) < (m.S.length : Int) := by omega
  have hlt := fun k (hk : MIn y m k) => h.lt hk
  clear h
  go_enter Tryz.func67, Tryz.ntmps67
  go_upto_region 1 with (fail)
  generalize World.alloc _ _ = W1 at hb0 hC h1 p0 q0 q1 q2 fz ⊢
  generalize hCC : w.heap.size = C at hC ⊢
  have hst : Hid (∀ (k : Nat) (hv : Value), True) := fun _ _ => trivial
  have hrel0 : Hid (∃ y', MM y' (sentTo m i (t, s) 0) W1 ∧ MU y m y' (sentTo m i (t, s) 0) w W1 ∧ W1.heap[C]? = some (.cells #[.int .u32 t, .string s] 77)) := ⟨y, h1, (MU.refl _ _ _).pre hb0, hC⟩
  clear q0 q2 fz
  go_upto_region 4 with (fail)
  clear p0 q1 hb0 hC
  go_loopw [8, 23] (fun hv iv wr => ∃ k : Nat, k ≤ m.S.length ∧ iv = .int .i64 k ∧ hv = .bool (!((List.range k).filter (hearsP m i t)).isEmpty) ∧ Hid (∃ y', MM y' (sentTo m i (t, s) k) wr ∧ MU y m y' (sentTo m i (t, s) k) w wr ∧ wr.heap[C]? = some (.cells #[.int .u32 t, .string s] 77))) (fun _ iv _ => m.S.length - (intOf iv).toNat)
  case atStart => exact ⟨0, Nat.zero_le _, rfl, rfl, hrel0⟩
  case round =>
    clear hrel0 h1
    obtain ⟨k, hk, rfl, rfl, hr⟩ := hrel
    by_cases hkl : k < m.S.length
    · have hki : (k : Int) < (m.S.length : Int) := by omega
      obtain ⟨y', hm, hu, hCb⟩ := hr.out
      have hS := (sentTo_S m i (t, s) k).1
      obtain ⟨xk, sk, g, c, a1, a2, a3, a4, d0⟩ := hm.get (i := k) (by rw [hS]; exact hkl)
      obtain ⟨xj, sj, g', c', b1, b2, b3, b4, _⟩ := hm.get (i := i) (by rw [hS]; exact hi)
      have hgg : g = g0 := by
        have h5 := a4
        rw [hu.sv, e4] at h5
        injection h5 with h5 _ _
        injection h5 with h5
        injection h5 with h5 _ _
        exact h5.symm
      subst hgg
      have hjB : xj.B = xi.B := hu.at e1 b1
      have hjs : sj = si := by
        rw [hS, e2] at b2
        exact (Option.some.inj b2).symm
      subst hjs
      obtain ⟨_, _, _, _, _, hh, _⟩ := (hm.st i xj sj b1 b2).cell
      rw [hjB] at hh
      have hhl := (hm.st i xj sj b1 b2).hl
      have hk6 : k < sj.hrs.length := by omega
      have hcell := hh k _ (List.getElem?_eq_getElem hk6)
      have hcA := (hm.st k xk sk a1 a2).cell.1
      have t0 : wr.cell? ⟨C, 0, none⟩ = some (.int .u32 t) := cell_of_row _ _ 0 _ _ _ hCb
      have t1 : wr.cell? ⟨C, 1, none⟩ = some (.string s) := cell_of_row _ _ 1 _ _ _ hCb
      have hPk : hearsP m i t k = (sj.hrs[k] && (decide (t = 0) || decide (t = sk.addr))) := by
        unfold hearsP
        rw [e3, List.getD_eq_getElem?_getD, List.getElem?_eq_getElem hk6, ← at_S hS k, a3]
        rfl
      generalize sj.hrs[k] = hb at hcell hPk
      have hk6' : (k : Int) < 6 := by omega
      have hL : Hid (∀ q, hearsP m i t k = true → Calls Tryz.prog 64 #[.pointer (some ⟨y.G, 0, none⟩), .agg #[.int .i64 i, .int .i64 k, .string s]] (wr.drewN q) fun e w' => e = .returned (.tuple #[]) ∧ ∃ y', MM y' (sentTo m i (t, s) (k + 1)) w' ∧ MU y m y' (sentTo m i (t, s) (k + 1)) w w' ∧ w'.heap[C]? = some (.cells #[.int .u32 t, .string s] 77)) := fun q hp => by
        have hdq : Below wr.heap.size wr (wr.drewN q) := draws_below1 wr q
        have hl := M_launch (hm.later hdq) (by have := sentTo_air m i (t, s) k ha; omega) (i, k, s)
        rw [hu.G] at hl
        refine hl.mono ?_
        rintro e w2 ⟨rfl, y2, hm2, hu2⟩
        rw [sentTo_succ, if_pos hp]
        have hCq : (wr.drewN q).heap[C]? = some (.cells #[.int .u32 t, .string s] 77) := (hdq.block C (some_lt hCb)).trans hCb
        exact ⟨rfl, y2, hm2, (hu.post hdq).trans hu2, (hu2.fx.block C (some_lt hCq) ((hm.later hdq).notE (by decide) hCq)).trans hCq⟩
      have hN : Hid (∀ q, hearsP m i t k = false → ∃ y', MM y' (sentTo m i (t, s) (k + 1)) (wr.drewN q) ∧ MU y m y' (sentTo m i (t, s) (k + 1)) w (wr.drewN q) ∧ (wr.drewN q).heap[C]? = some (.cells #[.int .u32 t, .string s] 77)) := fun q hp => by
        have hdq : Below wr.heap.size wr (wr.drewN q) := draws_below1 wr q
        rw [sentTo_succ, if_neg (by rw [hp]; simp)]
        exact ⟨y', hm.later hdq, hu.post hdq, (hdq.block C (some_lt hCb)).trans hCb⟩
      have hw64 : wrap64 ((k : Int) + 1) = (k : Int) + 1 := by unfold wrap64; omega
      have hfl : Hid (∀ b, hearsP m i t k = b → (!((List.range (k + 1)).filter (hearsP m i t)).isEmpty) = (b || !((List.range k).filter (hearsP m i t)).isEmpty)) := by
        intro b hb
        rw [List.range_succ, List.filter_append]
        cases b
        · simp [hb]
        · simp [hb]
      obtain ⟨pk, hpk⟩ : ∃ b, hearsP m i t k = b := ⟨_, rfl⟩
      rw [hpk] at hPk hL hN hfl
      replace hfl := hide (hfl.out _ rfl)
      clear hr hm hu hCb a1 a2 a3 a4 b1 b2 b3 b4 hjB hh hhl hk6 hS e2 e3 e4 hpk
      generalize (!((List.range k).filter (hearsP m i t)).isEmpty) = hv at hfl ⊢
      obtain ⟨hv2, hv2e⟩ : ∃ b, (!((List.range (k + 1)).filter (hearsP m i t)).isEmpty) = b := ⟨_, rfl⟩
      rw [hv2e] at hfl
      replace hv2e := hide hv2e
      go_upto_region 6 with (fail)
      go_cut [47] from 28 to 47 (fun v W => v = .bool pk ∧ ∃ q, W = wr.drewN q)
      case first =>
        clear hL hN hfl
        cases hb
        · obtain rfl : pk = false := by rw [hPk]; rfl
          clear hPk hw64
          go_quiet (fail)
          go_wp2_with fail
          go_meet
          exact ⟨rfl, _, rfl⟩
        · by_cases h0 : t = 0
          · obtain rfl : pk = true := by rw [hPk]; simp [h0]
            subst h0
            clear hPk hw64
            go_quiet (fail)
            go_wp2_with fail
            go_meet
            exact ⟨rfl, _, rfl⟩
          · have h0' : (t == 0) = false := by simpa using h0
            by_cases h2 : t = sk.addr
            · obtain rfl : pk = true := by rw [hPk]; simp [h2]
              subst h2
              clear hPk hw64
              go_quiet (fail)
              go_wp2_with fail
              go_meet
              exact ⟨by simp, _, rfl⟩
            · obtain rfl : pk = false := by rw [hPk]; simp [h0, h2]
              have h2' : (t == sk.addr) = false := by simpa using h2
              clear hPk hw64
              go_quiet (fail)
              go_wp2_with fail
              go_meet
              exact ⟨by simp [h2], _, rfl⟩
      case rest =>
        obtain ⟨rfl, q, rfl⟩ := hcut
        clear hPk
        have hk1 : k + 1 ≤ m.S.length := by omega
        have hme := meas_lt hkl
        cases pk
        · have hr2 := hide (hN.out q rfl)
          have hv2' := hfl.out
          rw [Bool.false_or] at hv2'
          subst hv2'
          clear hL hN hfl t0 t1 hcell hcA d0
          generalize World.drewN _ _ = W5 at hr2 ⊢
          go_wp2
          go_roundw
          case rel => exact ⟨k + 1, hk1, by go_num, by rw [hv2e.out], hr2⟩
          case measure => exact hme
        · have hL2 := hide (hL.out q rfl)
          have hv2' := hfl.out
          rw [Bool.true_or] at hv2'
          subst hv2'
          have hdq : Below wr.heap.size wr (wr.drewN q) := draws_below1 wr q
          have t1' : (wr.drewN q).cell? ⟨C, 1, none⟩ = some (.string s) := (hdq.cell (World.block_lt_of_cell? _ _ t1)).trans t1
          clear hL hN hfl t0 t1 hcell hcA d0 hdq
          generalize World.drewN _ _ = W5 at hL2 t1' ⊢
          go_wp2_with fail
          refine Calls.mono hL2.out ?_
          rintro e w2 ⟨rfl, hr2⟩
          replace hr2 := hide hr2
          clear hL2 t1'
          go_wp2
          go_roundw
          case rel => exact ⟨k + 1, hk1, by go_num, by rw [hv2e.out], hr2⟩
          case measure => exact hme
    · obtain rfl : k = m.S.length := by omega
      obtain ⟨y', hm, hu, hCb⟩ := hr.out
      rw [sentTo_all] at hm hu
      have hS : (m.sendF i (t, s)).S = m.S := (sentTo_S m i (t, s) m.S.length).1
      have hNw : (m.sendF i (t, s)).now = m.now := (sentTo_S m i (t, s) m.S.length).2
      obtain ⟨xj, sj, g', c', b1, b2, b3, b4, _⟩ := hm.get (i := i) (by rw [hS]; exact hi)
      have hjB : xj.B = xi.B := hu.at e1 b1
      have hc2 := (hm.st i xj sj b1 b2).cell.2.2.1
      rw [hjB] at hc2
      have hheard : (List.range m.S.length).filter (hearsP m i t) = m.heard i t := rfl
      rw [hheard]
      have t0 : wr.cell? ⟨C, 0, none⟩ = some (.int .u32 t) := cell_of_row _ _ 0 _ _ _ hCb
      have hlow : w.heap.size ≤ wr.heap.size := hu.fx.size
      by_cases hh : m.heard i t ≠ [] ∨ t = 0
      · have ho : m.out1 i (t, s) = (m.sendF i (t, s), []) := by
          unfold Msh.out1
          rw [if_pos hh]
        have hfin : DidP y m (m.out1 i (t, s)).1 (m.out1 i (t, s)).2 w.heap.size w (.returned (.slice none 0 0)) wr := by
          rw [ho]
          exact ⟨_, [], rfl, rfl, EvsM.nil _ _, y', hm, hu⟩
        clear hr hm hu hCb HD ho b1 b2 b3 b4 hlow hheard
        cases he : (m.heard i t).isEmpty
        · clear t0 hc2 hh
          go_wp2
          go_ret
          exact hfin
        · obtain rfl : t = 0 := by
            rcases hh with hh | hh
            · exact absurd (List.isEmpty_iff.1 he) hh
            · exact hh
          clear hc2 hh
          go_wp2
          go_ret
          exact hfin
      · simp only [not_or, Classical.not_not] at hh
        obtain ⟨hh, h0⟩ := hh
        have he : (m.heard i t).isEmpty = true := List.isEmpty_iff.2 hh
        have h0' : (t == 0) = false := by simpa using h0
        cases hnd : sj.nd with
        | none =>
          have ho : m.out1 i (t, s) = (m.sendF i (t, s), []) := by
            unfold Msh.out1
            rw [if_neg (by simp [hh, h0]), b3, hnd]
          have hfin : DidP y m (m.out1 i (t, s)).1 (m.out1 i (t, s)).2 w.heap.size w (.returned (.slice none 0 0)) wr := by
            rw [ho]
            exact ⟨_, [], rfl, rfl, EvsM.nil _ _, y', hm, hu⟩
          rw [hnd] at hc2
          unfold ndV at hc2
          clear hr hm hu hCb HD ho b1 b2 b3 b4 hlow hheard hCC
          rw [he]
          go_wp2
          go_ret
          exact hfin
        | some z =>
          have hz3 : ((m.sendF i (t, s)).at' i).nd = some z := by rw [b3]; exact hnd
          obtain ⟨k, hIk, hzn⟩ := hI z (by rw [← at_S hS i]; exact hz3)
          have ho : m.out1 i (t, s) = ((m.sendF i (t, s)).put i { (m.sendF i (t, s)).at' i with nd := some (z.brk m.now t) }).didB i (z.brk m.now t).ot := by
            unfold Msh.out1
            rw [if_neg (by simp [hh, h0]), hz3]
          rw [hnd] at hc2
          unfold ndV at hc2
          have HD' := HD h0 z hz3
          have hd1 : Below wr.heap.size wr wr.drew := (Below.refl _ _).drew
          have hm1 := hm.later hd1
          obtain ⟨n1, tm1⟩ := (hm1.st i xj sj b1 b2).nd z hnd
          have HB := N_Broken n1 hIk tm1 m.now t ⟨hzn, hnow⟩
          have HB2 : Hid (Calls Tryz.prog 100 #[.pointer (some ⟨xj.N, 0, none⟩), .int .u64 m.now, .int .u32 t] wr.drew fun e w2 => ∃ frm cam drp, e = .returned (outV (z.brk m.now t).jrn (z.brk m.now t).rep frm cam drp) ∧ OutR wr.heap.size (z.brk m.now t).frs (z.brk m.now t).cms (z.brk m.now t).drs frm cam drp w2 ∧ wr.heap.size ≤ w2.heap.size ∧ ∃ y2, MM y2 ((m.sendF i (t, s)).put i { (m.sendF i (t, s)).at' i with nd := some (z.brk m.now t) }) w2 ∧ MU y m y2 ((m.sendF i (t, s)).put i { (m.sendF i (t, s)).at' i with nd := some (z.brk m.now t) }) w w2) := by
            refine HB.mono ?_
            rintro e w2 ⟨o, rfl, _, hcp⟩
            obtain ⟨frm, cam, drp, rfl, hor, y2, hm2, hu2⟩ := hm1.call b1 b2 hnd hcp
            rw [b3]
            exact ⟨frm, cam, drp, rfl, hor, hu2.fx.size, y2, hm2, (hu.post hd1).trans hu2⟩
          have c0 := hm.cell.1
          rw [hu.G, hNw] at c0
          obtain ⟨m2, hm2e⟩ : ∃ m2, (m.sendF i (t, s)).put i { (m.sendF i (t, s)).at' i with nd := some (z.brk m.now t) } = m2 := ⟨_, rfl⟩
          rw [hm2e] at HD' HB2 ho
          obtain ⟨zb, hzb⟩ : ∃ zb, z.brk m.now t = zb := ⟨_, rfl⟩
          rw [hzb] at HD' HB2 ho
          replace ho := hide ho
          replace HD' := hide HD'
          obtain ⟨N, hNN⟩ : ∃ N, xj.N = N := ⟨_, rfl⟩
          rw [hNN] at hc2 HB2
          clear HD HB hm1 n1 tm1 hr hm hu hCb b1 b2 b3 b4 hheard hz3 hIk hzn hm2e hzb hNN hd1 hS hNw hjB e1 e2 e3 e4
          rw [he]
          go_upto_region 12 with (fail)
          go_region_with (first
            | (go_at_call 36; refine HDc.out.mono ?_; rintro e w3 ⟨v, L, rfl, hL, hev, hp3⟩)
            | (go_at_call 100; refine HB2.out.mono ?_; rintro e w2 ⟨frm, cam, drp, rfl, hor, hsz, y2, hm2, hu2⟩; have HDc := HD'.out _ _ _ _ _ _ hm2 hsz hor; rw [hu2.G] at HDc; replace HDc := hide HDc))
          all_goals
            have hfin := hide (show DidP y m (m.out1 i (t, s)).1 (m.out1 i (t, s)).2 w.heap.size w (.returned v) w3 from by rw [ho.out]; exact ⟨v, L, rfl, hL, hev.lower hlow, MP.comp hu2 hp3⟩)
            clear HDc hev hp3 hu2 hm2 hor HB2 HD'
            go_wp2
            go_ret
            exact hfin.out
end Go.Proofs.YtakaadcpaeiccabGreat
