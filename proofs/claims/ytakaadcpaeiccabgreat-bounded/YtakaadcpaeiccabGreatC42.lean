import Derived.Test.YtakaadcpaeiccabGreatC37
import Derived.Test.YtakaadcpaeiccabGreatC41
import Derived.Test.YtakaadcpaeiccabGreatC32
namespace Go.Proofs.YtakaadcpaeiccabGreat
open Go.RowKit Go.Maps Go.MuLone

set_option maxRecDepth 100000 in
set_option maxHeartbeats 8000000 in
theorem N_Tick {N : Nat} {g : NdG} {s : St} {TL : List Hp.Tm} {w : World} (n : Nn N g s TL w) {k : Int} (hI : s.Inv k) (hk : 0 ≤ k ∧ k ≤ 100000000000) (hT : TmOk s TL) (hpos : ∀ a ∈ s.Q, 0 < a.id) (now : Int) (hnow : s.now ≤ now ∧ now ≤ 4611686018427387904) :
    Calls Tryz.prog 20 #[.pointer (some ⟨N, 0, none⟩), .int .u64 now] w fun e w' => ∃ o, e = .returned o ∧ Hid ((s.tck now).Inv (k + 1)) ∧ CallP N g s (s.tck now) w o w' := by
  have hA := n.cr.tb.ok
  have hl := n.cr.tb.len
  have hb0 : Below w.heap.size w (w.alloc outZ) := (Below.refl _ _).alloc (Nat.le_refl _) _
  have hC0 : (w.alloc outZ).heap[w.heap.size]? = some outZ := heap_alloc_new _ _
  have hCn : ¬ Ft N g s w.heap.size := fun h => by have := n.lt h; omega
  have hs0 : (w.alloc outZ).heap.size = w.heap.size + 1 := by simp
  have n0 := n.later hb0
  have hM := (mid_lock hI).2 now hnow hA hl
  obtain ⟨s3, hs3⟩ : ∃ z, s.locked.begin now = z := ⟨_, rfl⟩
  rw [hs3] at hM
  have hlk3 : Hid (s3.lk = 1) := by show _ = _; rw [← hs3]; rfl
  have hQ3 : Hid (s3.Q = s.Q) := by show _ = _; rw [← hs3]; rfl
  have hnow3 : Hid (s3.now = now) := by show _ = _; rw [← hs3]; rfl
  have hme3 : Hid (s3.me = s.me) := by show _ = _; rw [← hs3]; rfl
  replace hM := hide hM
  dsimp only [outZ] at hb0 hC0 hs0 n0
  go_enter_defers Tryz.func20, Tryz.ntmps20
  go_upto_region 1 with (fail)
  generalize World.alloc _ _ = W1 at hb0 hC0 hs0 n0 ⊢
  obtain ⟨c0, f0⟩ := n0.lkd
  rw [hI.lk] at c0
  go_wp2_with fail
  refine Calls.mono (lock_free muLib ⟨N, 0, none⟩ W1 c0 f0) ?_
  rintro e w2 ⟨rfl, rfl⟩
  obtain ⟨n2, hg2⟩ := n0.setLk 1
  have hf2 : Fx (Ft N g s) w (W1.setCell ⟨N, 0, none⟩ (.int .i32 1)) := grown_Fx (Fx.below hb0) hg2 (fun i _ e => by cases e; exact .inl (.inl rfl))
  have hC2 := (hg2.block w.heap.size (by omega) (fun e => hCn (by cases e; exact .inl (.inl rfl)))).trans hC0
  have hs2 : w.heap.size + 1 ≤ (W1.setCell ⟨N, 0, none⟩ (.int .i32 1)).heap.size := by
    have := hg2.size
    omega
  have hcn := hI.cnt
  have HB := hide (N_begin n2 now ⟨hI.dom.mb, hI.dom.on, hI.dom.own⟩ ⟨hcn.1, by dsimp only; omega⟩)
  rw [show ({ s with lk := 1 } : St).begin now = s3 from hs3] at HB
  have hF1 : Hid (∀ k, Ft N ({ g with x := { g.x with lk := 1 } } : NdG) ({ s with lk := 1 } : St) k → Ft N g s k) := fun k h => h
  replace hs3 := hide hs3
  clear n0 hC0 hs0 hb0 c0 f0 hg2 hA hl hcn
  generalize ({ g with x := { g.x with lk := 1 } } : NdG) = g1 at n2 HB hF1
  generalize ({ s with lk := 1 } : St) = s1 at n2 HB hF1
  generalize World.setCell _ _ _ = W2 at n2 hf2 hC2 hs2 HB ⊢
  go_wp2_with fail
  refine Calls.mono HB.out ?_
  rintro e w3 ⟨g3, rfl, n3, u3, fx3, t3⟩
  clear t3
  clear HB
  have hT3 : Hid (TmOk s3 TL) := by
    show TmOk _ _
    unfold TmOk
    rw [hQ3.out]
    exact hT
  have HG := hide (N_goOn n3 hM.out (by omega) hk hT3.out (by rw [hQ3.out]; exact hpos))
  have hDl : Hid ((St.dueQ s3.Q s3.now).length ≤ 5000) := by
    show _ ≤ _
    unfold St.dueQ
    rw [(List.mergeSort_perm _ _).length_eq]
    exact Nat.le_trans (List.length_filter_le _ _) n3.nn.rs.sr.len
  clear fx3 n2 n3 hpos
  go_wp2_with fail
  refine Calls.mono HG.out ?_
  rintro e w5 ⟨rfl, g1', w1', s5, g5, TL5, hs5', n5, u5, _, t5, _, hr5, hM5', hk5⟩
  have hs5 : Hid ((St.dueQ s3.Q now).foldl St.step s3 = s5) := by
    show _ = _
    rw [hs5'.out, List.take_length, hnow3.out]
  have hT5 : Hid (TmOk s5 TL5) := by
    have := hr5.out
    rw [List.drop_length] at this
    exact this.done
  have hM5 : Hid (s5.Mid k (1 + (St.dueQ s3.Q s3.now).length)) := hM5'.out
  have hlk5 : Hid (s5.lk = 1) := hk5.out.lk.trans hlk3.out
  have ua5 := u3.trans u5
  replace hDl : (St.dueQ s3.Q s3.now).length ≤ 5000 := hDl.out
  generalize (St.dueQ s3.Q s3.now).length = dl at hM5 hDl
  clear HG u3 u5 hs5' hr5 hM5' hk5
  have hI5 := hide (inv_freed hM5.out (by omega) n5.nn.cr.tb.ok n5.nn.cr.tb.len)
  have HFn := hide (N_finish n5 hM5.out.dom (by have := hM5.out.cnt; omega) (by have := hM5.out.nws; omega) hM5.out.bd hM5.out.seq)
  go_wp2_with fail
  refine Calls.mono HFn.out ?_
  rintro e w6 ⟨g6, rfl, n6, u6, t6⟩
  obtain ⟨s6, hs6⟩ : ∃ z, s5.finish = z := ⟨_, rfl⟩
  have hlk6 : s6.lk = 1 := by rw [← hs6, (finish_same s5).lk]; exact hlk5.out
  have hT6 : Hid (TmOk s6 TL5) := by
    show TmOk _ _
    unfold TmOk
    rw [← hs6, (finish_same s5).Q]
    exact hT5.out
  have hfinal : Hid (s.tck now = s6.freed) := by
    show _ = _
    rw [← hs6]
    unfold St.tck St.tick
    rw [hs3.out]
    dsimp only
    rw [hs5.out]
  rw [hs6] at n6 u6 hI5 ⊢
  have ua6 := ua5.trans u6
  clear HFn hs6 u6 n5 ua5
  have fx6 := ua6.toFx (Nat.le_refl _)
  have hsub6 : ∀ k, Ft N g6 s6 k → Ft N g s k ∨ (w.heap.size ≤ k ∧ k < w6.heap.size) := fun k hk => (ua6.sub k hk).elim (fun h => .inl (hF1.out k h)) fun h => .inr ⟨by omega, h.2⟩
  have hC6 := (fx6.block w.heap.size (by omega) (fun h => hCn (hF1.out _ h))).trans hC2
  have hCn6 : ¬ Ft N g6 s6 w.heap.size := fun h => (ua6.sub _ h).elim (fun h => hCn (hF1.out _ h)) (by omega)
  have hf6 := hf2.trans fx6 (fun i _ h => hF1.out i h)
  have r1 := ownsRow_base_a n6.ac.frm (show w.heap.size ≤ W2.heap.size + 1 by omega)
  have r2 := ownsRow_base_a n6.ac.cam (show w.heap.size ≤ W2.heap.size + 1 by omega)
  have r3 := ownsRow_base_a n6.ac.drp (show w.heap.size ≤ W2.heap.size + 1 by omega)
  have m6 := n6.nn
  obtain ⟨af, kf, hf, _⟩ := row_form r1
  obtain ⟨ac, kc, hc, _⟩ := row_form r2
  obtain ⟨ad, kd, hdd, _⟩ := row_form r3
  rw [hf] at r1
  rw [hc] at r2
  rw [hdd] at r3
  rw [hf, hc, hdd]
  simp only [outV]
  clear n6 hf hc hdd ua6 fx6 hf2 hC2
  generalize hjj : s6.jrn = jj
  replace hjj := hide hjj
  have z0 : w6.cell? ⟨w.heap.size, 0, none⟩ = some (.string ⟨#[]⟩) := cell_of_row _ _ 0 _ _ _ hC6
  have z1 : w6.cell? ⟨w.heap.size, 1, none⟩ = some (.bool false) := cell_of_row _ _ 1 _ _ _ hC6
  have z2 : w6.cell? ⟨w.heap.size, 2, none⟩ = some (.slice none 0 0) := cell_of_row _ _ 2 _ _ _ hC6
  have z3 : w6.cell? ⟨w.heap.size, 3, none⟩ = some (.slice none 0 0) := cell_of_row _ _ 3 _ _ _ hC6
  have z4 : w6.cell? ⟨w.heap.size, 4, none⟩ = some (.slice none 0 0) := cell_of_row _ _ 4 _ _ _ hC6
  have y0 := frozen_of_row w6 w.heap.size 0 _ _ hC6
  have y1 := frozen_of_row w6 w.heap.size 1 _ _ hC6
  have y2 := frozen_of_row w6 w.heap.size 2 _ _ hC6
  have y3 := frozen_of_row w6 w.heap.size 3 _ _ hC6
  have y4 := frozen_of_row w6 w.heap.size 4 _ _ hC6
  have hgC := grown_cellOf (grown_cellOf (grown_cellOf (grown_cellOf (grown_cellOf (grown_self w6 (some w.heap.size)) 0 (.string jj)) 1 (.bool s6.rep)) 2 (.slice af s6.frs.length kf)) 3 (.slice ac s6.cms.length kc)) 4 (.slice ad s6.drs.length kd)
  have hC7 : (((((w6.setCell ⟨w.heap.size, 0, none⟩ (.string jj)).setCell ⟨w.heap.size, 1, none⟩ (.bool s6.rep)).setCell ⟨w.heap.size, 2, none⟩ (.slice af s6.frs.length kf)).setCell ⟨w.heap.size, 3, none⟩ (.slice ac s6.cms.length kc)).setCell ⟨w.heap.size, 4, none⟩ (.slice ad s6.drs.length kd)).heap[w.heap.size]? = some (.cells #[.string jj, .bool s6.rep, .slice af s6.frs.length kf, .slice ac s6.cms.length kc, .slice ad s6.drs.length kd] 52) := by
    simp [World.setCell, Array.getElem?_modify, hC6]
  have r1 := r1.kept hgC (.inr (row_not r1 hC6 (fun c e => (by cases e))))
  have r2 := r2.kept hgC (.inr (row_not r2 hC6 (fun c e => (by cases e))))
  have r3 := r3.kept hgC (.inr (row_not r3 hC6 (fun c e => (by cases e))))
  have m7 := m6.kept fun k hk => hgC.block k (m6.lt hk) (fun e => hCn6 (by cases e; exact hk))
  have hf7 := grown_Fx hf6 hgC (fun i hi e => by cases e; omega)
  have hsub7 := fun k hk => (hsub6 k hk).imp_right fun h => (⟨h.1, Nat.lt_of_lt_of_le h.2 hgC.size⟩ : w.heap.size ≤ k ∧ _)
  clear m6 hgC hf6 hC6 hsub6
  go_wp2_with fail
  generalize World.setCell _ _ _ = W7 at hC7 r1 r2 r3 m7 hf7 hsub7 ⊢
  have p0 : W7.cell? ⟨w.heap.size, 0, none⟩ = some (.string jj) := cell_of_row _ _ 0 _ _ _ hC7
  have p1 : W7.cell? ⟨w.heap.size, 1, none⟩ = some (.bool s6.rep) := cell_of_row _ _ 1 _ _ _ hC7
  have p2 : W7.cell? ⟨w.heap.size, 2, none⟩ = some (.slice af s6.frs.length kf) := cell_of_row _ _ 2 _ _ _ hC7
  have p3 : W7.cell? ⟨w.heap.size, 3, none⟩ = some (.slice ac s6.cms.length kc) := cell_of_row _ _ 3 _ _ _ hC7
  have p4 : W7.cell? ⟨w.heap.size, 4, none⟩ = some (.slice ad s6.drs.length kd) := cell_of_row _ _ 4 _ _ _ hC7
  obtain ⟨c0, f0⟩ := m7.lkd
  rw [hlk6] at c0
  refine leaves_cons (f := 50) (args := #[.pointer (some ⟨N, 0, none⟩)]) (by simp) (by simp [go_sem]) ?_
  refine (unlock_deferred muLib ⟨N, 0, none⟩ .returning W7 c0 f0).mono ?_
  rintro e u' w'' ⟨rfl, rfl, rfl⟩
  obtain ⟨m8, hg8⟩ := m7.setLk 0
  have hNw : N ≠ w.heap.size := fun e => hCn6 (by rw [← e]; exact .inl (.inl rfl))
  have hC8 := (hg8.block w.heap.size (some_lt hC7) (fun e => by cases e; exact hNw rfl)).trans hC7
  have r1 := r1.kept hg8 (.inr (row_not r1 m7.cr.nd (fun c e => (by cases e))))
  have r2 := r2.kept hg8 (.inr (row_not r2 m7.cr.nd (fun c e => (by cases e))))
  have r3 := r3.kept hg8 (.inr (row_not r3 m7.cr.nd (fun c e => (by cases e))))
  have hf8 := grown_Fx hf7 hg8 (fun i hi e => by cases e; exact .inl (.inl rfl))
  have hsub8 := fun k hk => (hsub7 k hk).imp_right fun h => (⟨h.1, Nat.lt_of_lt_of_le h.2 hg8.size⟩ : w.heap.size ≤ k ∧ _)
  clear p0 p1 p2 p3 p4 c0 f0 hg8 m7 hf7 hsub7 hC7
  generalize World.setCell _ _ _ = W8 at hC8 r1 r2 r3 m8 hf8 hsub8 ⊢
  have p0 : W8.cell? ⟨w.heap.size, 0, none⟩ = some (.string jj) := cell_of_row _ _ 0 _ _ _ hC8
  have p1 : W8.cell? ⟨w.heap.size, 1, none⟩ = some (.bool s6.rep) := cell_of_row _ _ 1 _ _ _ hC8
  have p2 : W8.cell? ⟨w.heap.size, 2, none⟩ = some (.slice af s6.frs.length kf) := cell_of_row _ _ 2 _ _ _ hC8
  have p3 : W8.cell? ⟨w.heap.size, 3, none⟩ = some (.slice ac s6.cms.length kc) := cell_of_row _ _ 3 _ _ _ hC8
  have p4 : W8.cell? ⟨w.heap.size, 4, none⟩ = some (.slice ad s6.drs.length kd) := cell_of_row _ _ 4 _ _ _ hC8
  refine ⟨.agg #[.string jj, .bool s6.rep, .slice af s6.frs.length kf, .slice ac s6.cms.length kc, .slice ad s6.drs.length kd], by simp [results, Tryz.results20, go_sem, p0, p1, p2, p3, p4], _, rfl, ?_⟩
  rw [hfinal.out]
  refine ⟨hI5, _, TL5, .slice af s6.frs.length kf, .slice ac s6.cms.length kc, .slice ad s6.drs.length kd, ?_, m8, hT6.out, r1, r2, r3, hf8, hsub8⟩
  rw [← hjj.out]
  rfl
end Go.Proofs.YtakaadcpaeiccabGreat

namespace Go.Proofs.YtakaadcpaeiccabGreat
open Go.RowKit Go.Maps Go.MuLone

theorem tm_ids {s : St} {TL : List Hp.Tm} (hT : TmOk s TL) (h : ∀ q ∈ s.Q, q.id ≤ s.tl) : ∀ x ∈ TL, x.2.1 ≤ s.tl := fun x hx => by
  obtain ⟨q, hq, rfl⟩ := List.mem_map.1 (hT.mem_iff.1 hx)
  exact h q hq

set_option maxRecDepth 100000 in
set_option maxHeartbeats 8000000 in
theorem N_Send {N : Nat} {g : NdG} {s : St} {TL : List Hp.Tm} {w : World} (n : Nn N g s TL w) {k : Int} (hI : s.Inv k) (hk : 0 ≤ k ∧ k ≤ 100000000000) (hT : TmOk s TL) (now d : Int) (t : ByteArray) (hnow : s.now ≤ now ∧ now ≤ 4611686018427387904) (hd : U32 d) (ht : t.size ≤ 16) (hdm : d ≠ s.me) (hd0 : d ≠ 0) (hQ : s.Q.length ≤ 4999) :
    Calls Tryz.prog 21 #[.pointer (some ⟨N, 0, none⟩), .int .u64 now, .int .u32 d, .string t] w fun e w' => ∃ o, e = .returned (.tuple #[o, .int .i64 0]) ∧ Hid ((s.snd now d t).Inv (k + 1)) ∧ CallP N g s (s.snd now d t) w o w' := by
  have h16 : ¬ (16 : Int) < (t.size : Int) := by omega
  have hdm' : (d == s.me) = false := by simpa using hdm
  have hd0' : (d == 0) = false := by simpa using hd0
  have hA := n.cr.tb.ok
  have hl := n.cr.tb.len
  have hb0 : Below w.heap.size w (w.alloc outZ) := (Below.refl _ _).alloc (Nat.le_refl _) _
  have hC0 : (w.alloc outZ).heap[w.heap.size]? = some outZ := heap_alloc_new _ _
  have hCn : ¬ Ft N g s w.heap.size := fun h => by have := n.lt h; omega
  have hs0 : (w.alloc outZ).heap.size = w.heap.size + 1 := by simp
  have n0 := n.later hb0
  have hM := (mid_lock hI).2 now hnow hA hl
  obtain ⟨s3, hs3⟩ : ∃ z, s.locked.begin now = z := ⟨_, rfl⟩
  rw [hs3] at hM
  have hlk3 : Hid (s3.lk = 1) := by show _ = _; rw [← hs3]; rfl
  have hQ3 : Hid (s3.Q = s.Q) := by show _ = _; rw [← hs3]; rfl
  have hnow3 : Hid (s3.now = now) := by show _ = _; rw [← hs3]; rfl
  have hme3 : Hid (s3.me = s.me) := by show _ = _; rw [← hs3]; rfl
  replace hM := hide hM
  dsimp only [outZ] at hb0 hC0 hs0 n0
  go_enter_defers Tryz.func21, Tryz.ntmps21
  go_upto_region 1 with (fail)
  generalize World.alloc _ _ = W1 at hb0 hC0 hs0 n0 ⊢
  obtain ⟨c0, f0⟩ := n0.lkd
  rw [hI.lk] at c0
  go_wp2_with fail
  refine Calls.mono (lock_free muLib ⟨N, 0, none⟩ W1 c0 f0) ?_
  rintro e w2 ⟨rfl, rfl⟩
  obtain ⟨n2, hg2⟩ := n0.setLk 1
  have hf2 : Fx (Ft N g s) w (W1.setCell ⟨N, 0, none⟩ (.int .i32 1)) := grown_Fx (Fx.below hb0) hg2 (fun i _ e => by cases e; exact .inl (.inl rfl))
  have hC2 := (hg2.block w.heap.size (by omega) (fun e => hCn (by cases e; exact .inl (.inl rfl)))).trans hC0
  have hs2 : w.heap.size + 1 ≤ (W1.setCell ⟨N, 0, none⟩ (.int .i32 1)).heap.size := by
    have := hg2.size
    omega
  have hcn := hI.cnt
  have HB := hide (N_begin n2 now ⟨hI.dom.mb, hI.dom.on, hI.dom.own⟩ ⟨hcn.1, by dsimp only; omega⟩)
  rw [show ({ s with lk := 1 } : St).begin now = s3 from hs3] at HB
  have hF1 : Hid (∀ k, Ft N ({ g with x := { g.x with lk := 1 } } : NdG) ({ s with lk := 1 } : St) k → Ft N g s k) := fun k h => h
  replace hs3 := hide hs3
  have c2 := n2.cr.nd.cell.2.1
  rw [n2.eq.self] at c2
  dsimp only at c2
  clear n0 hC0 hs0 hb0 c0 f0 hg2 hA hl hcn
  generalize ({ g with x := { g.x with lk := 1 } } : NdG) = g1 at n2 HB hF1
  generalize ({ s with lk := 1 } : St) = s1 at n2 HB hF1
  generalize World.setCell _ _ _ = W2 at n2 hf2 c2 hC2 hs2 HB ⊢
  go_wp2_with fail
  refine Calls.mono HB.out ?_
  rintro e w3 ⟨g3, rfl, n3, u3, fx3, t3⟩
  clear t3
  clear HB
  have hT3 : Hid (TmOk s3 TL) := by
    show TmOk _ _
    unfold TmOk
    rw [hQ3.out]
    exact hT
  have hlen := hide (n3.nn.qlen hT3.out)
  have HS := hide (N_sendText n3 d hd t ht hM.out.me hM.out.now (by have := hM.out.frs; omega))
  obtain ⟨fd, hfd⟩ : ∃ b, (findL s3.A d s3.now).2 = b := ⟨_, rfl⟩
  rw [hfd] at HS
  have hQl : Hid (s3.Q.length ≤ 4999) := by show _ ≤ _; rw [hQ3.out]; exact hQ
  clear fx3 n2 n3 c2 h16 hdm' hd0'
  go_wp2_with fail
  refine Calls.mono HS.out ?_
  rintro e w4 ⟨rfl, g4, n4, u4, t4, y4⟩
  have ua4 := u3.trans u4
  clear HS u3 u4 t4 y4
  cases fd
  · have he4 : s3.sendText d t = s3 := by
      unfold St.sendText
      rw [hfd]
      rfl
    rw [he4] at n4 ua4
    have HA := hide (N_await n4 (hM.out.rdy (by omega) hk) (by have := hM.out.drs; omega) d hd t ht (by have := hlen.out; omega) hQl.out (by have := hM.out.tl; omega) (tm_ids hT3.out hM.out.qid))
    obtain ⟨hMa, hKa⟩ := mid_await hM.out n4.nn.cr.tb.ok n4.nn.cr.tb.len d t
    obtain ⟨s5, hs5⟩ : ∃ z, s3.await d t = z := ⟨_, rfl⟩
    rw [hs5] at HA hMa hKa
    have hM5 : Hid (s5.Mid k 2) := hMa
    have hlk5 : Hid (s5.lk = 1) := hKa.lk.trans hlk3.out
    have hfd' : Hid ((findL s3.A d s3.now).2 = false) := hfd
    replace hs5 := hide hs5
    clear he4 hMa hKa n4 hfd
    go_wp2_with fail
    refine Calls.mono HA.out ?_
    rintro e w5 ⟨rfl, TL5, ⟨g5, n5, u5, t5⟩, hTm⟩
    have hT5 : Hid (TmOk s5 TL5) := hTm hT3.out
    have ua5 := ua4.trans u5
    clear HA u5 ua4 hTm t5
    have hI5 := hide (inv_freed hM5.out (by omega) n5.nn.cr.tb.ok n5.nn.cr.tb.len)
    have HFn := hide (N_finish n5 hM5.out.dom (by have := hM5.out.cnt; omega) (by have := hM5.out.nws; omega) hM5.out.bd hM5.out.seq)
    go_wp2_with fail
    refine Calls.mono HFn.out ?_
    rintro e w6 ⟨g6, rfl, n6, u6, t6⟩
    obtain ⟨s6, hs6⟩ : ∃ z, s5.finish = z := ⟨_, rfl⟩
    have hlk6 : s6.lk = 1 := by rw [← hs6, (finish_same s5).lk]; exact hlk5.out
    have hT6 : Hid (TmOk s6 TL5) := by
      show TmOk _ _
      unfold TmOk
      rw [← hs6, (finish_same s5).Q]
      exact hT5.out
    have hfinal : Hid (s.snd now d t = s6.freed) := by
      show _ = _
      rw [← hs6]
      unfold St.snd St.sends
      rw [hs3.out]
      dsimp only
      rw [hfd'.out]
      simp only [Bool.false_eq_true, if_false]
      rw [hs5.out]
    rw [hs6] at n6 u6 hI5 ⊢
    have ua6 := ua5.trans u6
    clear HFn hs6 u6 n5 ua5
    have fx6 := ua6.toFx (Nat.le_refl _)
    have hsub6 : ∀ k, Ft N g6 s6 k → Ft N g s k ∨ (w.heap.size ≤ k ∧ k < w6.heap.size) := fun k hk => (ua6.sub k hk).elim (fun h => .inl (hF1.out k h)) fun h => .inr ⟨by omega, h.2⟩
    have hC6 := (fx6.block w.heap.size (by omega) (fun h => hCn (hF1.out _ h))).trans hC2
    have hCn6 : ¬ Ft N g6 s6 w.heap.size := fun h => (ua6.sub _ h).elim (fun h => hCn (hF1.out _ h)) (by omega)
    have hf6 := hf2.trans fx6 (fun i _ h => hF1.out i h)
    have r1 := ownsRow_base_a n6.ac.frm (show w.heap.size ≤ W2.heap.size + 1 by omega)
    have r2 := ownsRow_base_a n6.ac.cam (show w.heap.size ≤ W2.heap.size + 1 by omega)
    have r3 := ownsRow_base_a n6.ac.drp (show w.heap.size ≤ W2.heap.size + 1 by omega)
    have m6 := n6.nn
    obtain ⟨af, kf, hf, _⟩ := row_form r1
    obtain ⟨ac, kc, hc, _⟩ := row_form r2
    obtain ⟨ad, kd, hdd, _⟩ := row_form r3
    rw [hf] at r1
    rw [hc] at r2
    rw [hdd] at r3
    rw [hf, hc, hdd]
    simp only [outV]
    clear n6 hf hc hdd ua6 fx6 hf2 hC2
    generalize hjj : s6.jrn = jj
    replace hjj := hide hjj
    have z0 : w6.cell? ⟨w.heap.size, 0, none⟩ = some (.string ⟨#[]⟩) := cell_of_row _ _ 0 _ _ _ hC6
    have z1 : w6.cell? ⟨w.heap.size, 1, none⟩ = some (.bool false) := cell_of_row _ _ 1 _ _ _ hC6
    have z2 : w6.cell? ⟨w.heap.size, 2, none⟩ = some (.slice none 0 0) := cell_of_row _ _ 2 _ _ _ hC6
    have z3 : w6.cell? ⟨w.heap.size, 3, none⟩ = some (.slice none 0 0) := cell_of_row _ _ 3 _ _ _ hC6
    have z4 : w6.cell? ⟨w.heap.size, 4, none⟩ = some (.slice none 0 0) := cell_of_row _ _ 4 _ _ _ hC6
    have y0 := frozen_of_row w6 w.heap.size 0 _ _ hC6
    have y1 := frozen_of_row w6 w.heap.size 1 _ _ hC6
    have y2 := frozen_of_row w6 w.heap.size 2 _ _ hC6
    have y3 := frozen_of_row w6 w.heap.size 3 _ _ hC6
    have y4 := frozen_of_row w6 w.heap.size 4 _ _ hC6
    have hgC := grown_cellOf (grown_cellOf (grown_cellOf (grown_cellOf (grown_cellOf (grown_self w6 (some w.heap.size)) 0 (.string jj)) 1 (.bool s6.rep)) 2 (.slice af s6.frs.length kf)) 3 (.slice ac s6.cms.length kc)) 4 (.slice ad s6.drs.length kd)
    have hC7 : (((((w6.setCell ⟨w.heap.size, 0, none⟩ (.string jj)).setCell ⟨w.heap.size, 1, none⟩ (.bool s6.rep)).setCell ⟨w.heap.size, 2, none⟩ (.slice af s6.frs.length kf)).setCell ⟨w.heap.size, 3, none⟩ (.slice ac s6.cms.length kc)).setCell ⟨w.heap.size, 4, none⟩ (.slice ad s6.drs.length kd)).heap[w.heap.size]? = some (.cells #[.string jj, .bool s6.rep, .slice af s6.frs.length kf, .slice ac s6.cms.length kc, .slice ad s6.drs.length kd] 52) := by
      simp [World.setCell, Array.getElem?_modify, hC6]
    have r1 := r1.kept hgC (.inr (row_not r1 hC6 (fun c e => (by cases e))))
    have r2 := r2.kept hgC (.inr (row_not r2 hC6 (fun c e => (by cases e))))
    have r3 := r3.kept hgC (.inr (row_not r3 hC6 (fun c e => (by cases e))))
    have m7 := m6.kept fun k hk => hgC.block k (m6.lt hk) (fun e => hCn6 (by cases e; exact hk))
    have hf7 := grown_Fx hf6 hgC (fun i hi e => by cases e; omega)
    have hsub7 := fun k hk => (hsub6 k hk).imp_right fun h => (⟨h.1, Nat.lt_of_lt_of_le h.2 hgC.size⟩ : w.heap.size ≤ k ∧ _)
    clear m6 hgC hf6 hC6 hsub6
    go_wp2_with fail
    generalize World.setCell _ _ _ = W7 at hC7 r1 r2 r3 m7 hf7 hsub7 ⊢
    have p0 : W7.cell? ⟨w.heap.size, 0, none⟩ = some (.string jj) := cell_of_row _ _ 0 _ _ _ hC7
    have p1 : W7.cell? ⟨w.heap.size, 1, none⟩ = some (.bool s6.rep) := cell_of_row _ _ 1 _ _ _ hC7
    have p2 : W7.cell? ⟨w.heap.size, 2, none⟩ = some (.slice af s6.frs.length kf) := cell_of_row _ _ 2 _ _ _ hC7
    have p3 : W7.cell? ⟨w.heap.size, 3, none⟩ = some (.slice ac s6.cms.length kc) := cell_of_row _ _ 3 _ _ _ hC7
    have p4 : W7.cell? ⟨w.heap.size, 4, none⟩ = some (.slice ad s6.drs.length kd) := cell_of_row _ _ 4 _ _ _ hC7
    obtain ⟨c0, f0⟩ := m7.lkd
    rw [hlk6] at c0
    refine leaves_cons (f := 50) (args := #[.pointer (some ⟨N, 0, none⟩)]) (by simp) (by simp [go_sem]) ?_
    refine (unlock_deferred muLib ⟨N, 0, none⟩ .returning W7 c0 f0).mono ?_
    rintro e u' w'' ⟨rfl, rfl, rfl⟩
    obtain ⟨m8, hg8⟩ := m7.setLk 0
    have hNw : N ≠ w.heap.size := fun e => hCn6 (by rw [← e]; exact .inl (.inl rfl))
    have hC8 := (hg8.block w.heap.size (some_lt hC7) (fun e => by cases e; exact hNw rfl)).trans hC7
    have r1 := r1.kept hg8 (.inr (row_not r1 m7.cr.nd (fun c e => (by cases e))))
    have r2 := r2.kept hg8 (.inr (row_not r2 m7.cr.nd (fun c e => (by cases e))))
    have r3 := r3.kept hg8 (.inr (row_not r3 m7.cr.nd (fun c e => (by cases e))))
    have hf8 := grown_Fx hf7 hg8 (fun i hi e => by cases e; exact .inl (.inl rfl))
    have hsub8 := fun k hk => (hsub7 k hk).imp_right fun h => (⟨h.1, Nat.lt_of_lt_of_le h.2 hg8.size⟩ : w.heap.size ≤ k ∧ _)
    clear p0 p1 p2 p3 p4 c0 f0 hg8 m7 hf7 hsub7 hC7
    generalize World.setCell _ _ _ = W8 at hC8 r1 r2 r3 m8 hf8 hsub8 ⊢
    have p0 : W8.cell? ⟨w.heap.size, 0, none⟩ = some (.string jj) := cell_of_row _ _ 0 _ _ _ hC8
    have p1 : W8.cell? ⟨w.heap.size, 1, none⟩ = some (.bool s6.rep) := cell_of_row _ _ 1 _ _ _ hC8
    have p2 : W8.cell? ⟨w.heap.size, 2, none⟩ = some (.slice af s6.frs.length kf) := cell_of_row _ _ 2 _ _ _ hC8
    have p3 : W8.cell? ⟨w.heap.size, 3, none⟩ = some (.slice ac s6.cms.length kc) := cell_of_row _ _ 3 _ _ _ hC8
    have p4 : W8.cell? ⟨w.heap.size, 4, none⟩ = some (.slice ad s6.drs.length kd) := cell_of_row _ _ 4 _ _ _ hC8
    refine ⟨.tuple #[.agg #[.string jj, .bool s6.rep, .slice af s6.frs.length kf, .slice ac s6.cms.length kc, .slice ad s6.drs.length kd], .int .i64 0], by simp [results, Tryz.results21, go_sem, p0, p1, p2, p3, p4], .agg #[.string jj, .bool s6.rep, .slice af s6.frs.length kf, .slice ac s6.cms.length kc, .slice ad s6.drs.length kd], rfl, ?_⟩
    rw [hfinal.out]
    refine ⟨hI5, _, TL5, .slice af s6.frs.length kf, .slice ac s6.cms.length kc, .slice ad s6.drs.length kd, ?_, m8, hT6.out, r1, r2, r3, hf8, hsub8⟩
    rw [← hjj.out]
    rfl
  · obtain ⟨hMa, hKa⟩ := mid_sendText hM.out d t
    obtain ⟨s5, hs5⟩ : ∃ z, s3.sendText d t = z := ⟨_, rfl⟩
    have hQ5 : s5.Q = s3.Q := by rw [← hs5]; exact (sendText_same s3 d t).1
    rw [hs5] at n4 ua4 hMa hKa
    have hM5 : Hid (s5.Mid k 2) := hMa
    have hlk5 : Hid (s5.lk = 1) := hKa.lk.trans hlk3.out
    have hfd' : Hid ((findL s3.A d s3.now).2 = true) := hfd
    have hT5 : Hid (TmOk s5 TL) := by
      show TmOk _ _
      unfold TmOk
      rw [hQ5]
      exact hT3.out
    replace hs5 := hide hs5
    clear hMa hKa hfd hQ5
    have hI5 := hide (inv_freed hM5.out (by omega) n4.nn.cr.tb.ok n4.nn.cr.tb.len)
    have HFn := hide (N_finish n4 hM5.out.dom (by have := hM5.out.cnt; omega) (by have := hM5.out.nws; omega) hM5.out.bd hM5.out.seq)
    go_wp2_with fail
    refine Calls.mono HFn.out ?_
    rintro e w6 ⟨g6, rfl, n6, u6, t6⟩
    obtain ⟨s6, hs6⟩ : ∃ z, s5.finish = z := ⟨_, rfl⟩
    have hlk6 : s6.lk = 1 := by rw [← hs6, (finish_same s5).lk]; exact hlk5.out
    have hT6 : Hid (TmOk s6 TL) := by
      show TmOk _ _
      unfold TmOk
      rw [← hs6, (finish_same s5).Q]
      exact hT5.out
    have hfinal : Hid (s.snd now d t = s6.freed) := by
      show _ = _
      rw [← hs6]
      unfold St.snd St.sends
      rw [hs3.out]
      dsimp only
      rw [hfd'.out]
      simp only [if_true]
      rw [hs5.out]
    rw [hs6] at n6 u6 hI5 ⊢
    have ua6 := ua4.trans u6
    clear HFn hs6 u6 n4 ua4
    have fx6 := ua6.toFx (Nat.le_refl _)
    have hsub6 : ∀ k, Ft N g6 s6 k → Ft N g s k ∨ (w.heap.size ≤ k ∧ k < w6.heap.size) := fun k hk => (ua6.sub k hk).elim (fun h => .inl (hF1.out k h)) fun h => .inr ⟨by omega, h.2⟩
    have hC6 := (fx6.block w.heap.size (by omega) (fun h => hCn (hF1.out _ h))).trans hC2
    have hCn6 : ¬ Ft N g6 s6 w.heap.size := fun h => (ua6.sub _ h).elim (fun h => hCn (hF1.out _ h)) (by omega)
    have hf6 := hf2.trans fx6 (fun i _ h => hF1.out i h)
    have r1 := ownsRow_base_a n6.ac.frm (show w.heap.size ≤ W2.heap.size + 1 by omega)
    have r2 := ownsRow_base_a n6.ac.cam (show w.heap.size ≤ W2.heap.size + 1 by omega)
    have r3 := ownsRow_base_a n6.ac.drp (show w.heap.size ≤ W2.heap.size + 1 by omega)
    have m6 := n6.nn
    obtain ⟨af, kf, hf, _⟩ := row_form r1
    obtain ⟨ac, kc, hc, _⟩ := row_form r2
    obtain ⟨ad, kd, hdd, _⟩ := row_form r3
    rw [hf] at r1
    rw [hc] at r2
    rw [hdd] at r3
    rw [hf, hc, hdd]
    simp only [outV]
    clear n6 hf hc hdd ua6 fx6 hf2 hC2
    generalize hjj : s6.jrn = jj
    replace hjj := hide hjj
    have z0 : w6.cell? ⟨w.heap.size, 0, none⟩ = some (.string ⟨#[]⟩) := cell_of_row _ _ 0 _ _ _ hC6
    have z1 : w6.cell? ⟨w.heap.size, 1, none⟩ = some (.bool false) := cell_of_row _ _ 1 _ _ _ hC6
    have z2 : w6.cell? ⟨w.heap.size, 2, none⟩ = some (.slice none 0 0) := cell_of_row _ _ 2 _ _ _ hC6
    have z3 : w6.cell? ⟨w.heap.size, 3, none⟩ = some (.slice none 0 0) := cell_of_row _ _ 3 _ _ _ hC6
    have z4 : w6.cell? ⟨w.heap.size, 4, none⟩ = some (.slice none 0 0) := cell_of_row _ _ 4 _ _ _ hC6
    have y0 := frozen_of_row w6 w.heap.size 0 _ _ hC6
    have y1 := frozen_of_row w6 w.heap.size 1 _ _ hC6
    have y2 := frozen_of_row w6 w.heap.size 2 _ _ hC6
    have y3 := frozen_of_row w6 w.heap.size 3 _ _ hC6
    have y4 := frozen_of_row w6 w.heap.size 4 _ _ hC6
    have hgC := grown_cellOf (grown_cellOf (grown_cellOf (grown_cellOf (grown_cellOf (grown_self w6 (some w.heap.size)) 0 (.string jj)) 1 (.bool s6.rep)) 2 (.slice af s6.frs.length kf)) 3 (.slice ac s6.cms.length kc)) 4 (.slice ad s6.drs.length kd)
    have hC7 : (((((w6.setCell ⟨w.heap.size, 0, none⟩ (.string jj)).setCell ⟨w.heap.size, 1, none⟩ (.bool s6.rep)).setCell ⟨w.heap.size, 2, none⟩ (.slice af s6.frs.length kf)).setCell ⟨w.heap.size, 3, none⟩ (.slice ac s6.cms.length kc)).setCell ⟨w.heap.size, 4, none⟩ (.slice ad s6.drs.length kd)).heap[w.heap.size]? = some (.cells #[.string jj, .bool s6.rep, .slice af s6.frs.length kf, .slice ac s6.cms.length kc, .slice ad s6.drs.length kd] 52) := by
      simp [World.setCell, Array.getElem?_modify, hC6]
    have r1 := r1.kept hgC (.inr (row_not r1 hC6 (fun c e => (by cases e))))
    have r2 := r2.kept hgC (.inr (row_not r2 hC6 (fun c e => (by cases e))))
    have r3 := r3.kept hgC (.inr (row_not r3 hC6 (fun c e => (by cases e))))
    have m7 := m6.kept fun k hk => hgC.block k (m6.lt hk) (fun e => hCn6 (by cases e; exact hk))
    have hf7 := grown_Fx hf6 hgC (fun i hi e => by cases e; omega)
    have hsub7 := fun k hk => (hsub6 k hk).imp_right fun h => (⟨h.1, Nat.lt_of_lt_of_le h.2 hgC.size⟩ : w.heap.size ≤ k ∧ _)
    clear m6 hgC hf6 hC6 hsub6
    go_wp2_with fail
    generalize World.setCell _ _ _ = W7 at hC7 r1 r2 r3 m7 hf7 hsub7 ⊢
    have p0 : W7.cell? ⟨w.heap.size, 0, none⟩ = some (.string jj) := cell_of_row _ _ 0 _ _ _ hC7
    have p1 : W7.cell? ⟨w.heap.size, 1, none⟩ = some (.bool s6.rep) := cell_of_row _ _ 1 _ _ _ hC7
    have p2 : W7.cell? ⟨w.heap.size, 2, none⟩ = some (.slice af s6.frs.length kf) := cell_of_row _ _ 2 _ _ _ hC7
    have p3 : W7.cell? ⟨w.heap.size, 3, none⟩ = some (.slice ac s6.cms.length kc) := cell_of_row _ _ 3 _ _ _ hC7
    have p4 : W7.cell? ⟨w.heap.size, 4, none⟩ = some (.slice ad s6.drs.length kd) := cell_of_row _ _ 4 _ _ _ hC7
    obtain ⟨c0, f0⟩ := m7.lkd
    rw [hlk6] at c0
    refine leaves_cons (f := 50) (args := #[.pointer (some ⟨N, 0, none⟩)]) (by simp) (by simp [go_sem]) ?_
    refine (unlock_deferred muLib ⟨N, 0, none⟩ .returning W7 c0 f0).mono ?_
    rintro e u' w'' ⟨rfl, rfl, rfl⟩
    obtain ⟨m8, hg8⟩ := m7.setLk 0
    have hNw : N ≠ w.heap.size := fun e => hCn6 (by rw [← e]; exact .inl (.inl rfl))
    have hC8 := (hg8.block w.heap.size (some_lt hC7) (fun e => by cases e; exact hNw rfl)).trans hC7
    have r1 := r1.kept hg8 (.inr (row_not r1 m7.cr.nd (fun c e => (by cases e))))
    have r2 := r2.kept hg8 (.inr (row_not r2 m7.cr.nd (fun c e => (by cases e))))
    have r3 := r3.kept hg8 (.inr (row_not r3 m7.cr.nd (fun c e => (by cases e))))
    have hf8 := grown_Fx hf7 hg8 (fun i hi e => by cases e; exact .inl (.inl rfl))
    have hsub8 := fun k hk => (hsub7 k hk).imp_right fun h => (⟨h.1, Nat.lt_of_lt_of_le h.2 hg8.size⟩ : w.heap.size ≤ k ∧ _)
    clear p0 p1 p2 p3 p4 c0 f0 hg8 m7 hf7 hsub7 hC7
    generalize World.setCell _ _ _ = W8 at hC8 r1 r2 r3 m8 hf8 hsub8 ⊢
    have p0 : W8.cell? ⟨w.heap.size, 0, none⟩ = some (.string jj) := cell_of_row _ _ 0 _ _ _ hC8
    have p1 : W8.cell? ⟨w.heap.size, 1, none⟩ = some (.bool s6.rep) := cell_of_row _ _ 1 _ _ _ hC8
    have p2 : W8.cell? ⟨w.heap.size, 2, none⟩ = some (.slice af s6.frs.length kf) := cell_of_row _ _ 2 _ _ _ hC8
    have p3 : W8.cell? ⟨w.heap.size, 3, none⟩ = some (.slice ac s6.cms.length kc) := cell_of_row _ _ 3 _ _ _ hC8
    have p4 : W8.cell? ⟨w.heap.size, 4, none⟩ = some (.slice ad s6.drs.length kd) := cell_of_row _ _ 4 _ _ _ hC8
    refine ⟨.tuple #[.agg #[.string jj, .bool s6.rep, .slice af s6.frs.length kf, .slice ac s6.cms.length kc, .slice ad s6.drs.length kd], .int .i64 0], by simp [results, Tryz.results21, go_sem, p0, p1, p2, p3, p4], .agg #[.string jj, .bool s6.rep, .slice af s6.frs.length kf, .slice ac s6.cms.length kc, .slice ad s6.drs.length kd], rfl, ?_⟩
    rw [hfinal.out]
    refine ⟨hI5, _, TL, .slice af s6.frs.length kf, .slice ac s6.cms.length kc, .slice ad s6.drs.length kd, ?_, m8, hT6.out, r1, r2, r3, hf8, hsub8⟩
    rw [← hjj.out]
    rfl
end Go.Proofs.YtakaadcpaeiccabGreat
