import Derived.Test.YtakaadcpaeiccabGreatC34
namespace Go.Proofs.YtakaadcpaeiccabGreat
open Go.RowKit Go.Maps

/-! What each call of a node ends with. -/
theorem Nd.off {N B : Nat} {g : NdG} {s : St} {TL : List Hp.Tm} {W W' : World} (n : Nd N B g s TL W) {S : Nat → Prop} (hf : Fx S W W') (hS : ∀ k, S k → ¬ Ft N g s k ∧ ¬ AcIn B g.a k) : Nd N B g s TL W' :=
  ⟨n.nn.kept fun k hk => hf.block k (n.nn.lt hk) fun h => (hS k h).1 hk, n.ac.kept fun k hk => hf.block k (n.ac.lt hk) fun h => (hS k h).2 hk, n.now, n.rep⟩
theorem Up.fresh {B : Nat} {F F' : Nat → Prop} {a b c : World} (u : Up B F F' a b) {C : Nat} (h : b.grownBy c (some C)) (hC : a.heap.size ≤ C) : Up B F F' a c :=
  ⟨fun k hk => (u.sub k hk).imp_right fun ⟨h1, h2⟩ => ⟨h1, Nat.lt_of_lt_of_le h2 h.size⟩, h.os.trans u.os, h.tape.trans u.tape, h.output.trans u.output, Nat.le_trans u.size h.size, fun k o ho hn hA => by
    have h1 := u.block k o ho hn hA
    exact (h.block k (some_lt h1) fun e => by
      have := some_lt ho
      have := Option.some.inj e
      omega).trans h1⟩
theorem ou_offA (c : Array Value) : offA (.cells c 52 (0, 0)) := ⟨fun c e => (by cases e), fun c e => (by cases e), fun c e => (by cases e), fun c e => (by cases e), fun c e => (by cases e)⟩
/-- The compact journal is what the program's compaction gives. -/
theorem cmp_is {s : St} (ha : Asc s.A) (hd : ∀ d, (s.f d).isSome = true → ∃ y ∈ s.A, y.dest = d) (hall : ∀ y ∈ s.A, (s.f y.dest).isSome = true) : IsCmp s.f (some s.own) s.cmp := by
  refine ⟨s.A.map (fun y => y.dest), (List.pairwise_map (f := fun y : Rt => y.dest) (R := fun a b : Int => a < b)).2 ha, fun a => ⟨fun h => ?_, fun h => ?_⟩, rfl⟩
  · obtain ⟨y, hy, rfl⟩ := List.mem_map.1 h
    exact hall y hy
  · obtain ⟨y, hy, rfl⟩ := hd a h
    exact List.mem_map.2 ⟨y, hy, rfl⟩
/-- What is written becomes a new list. -/
theorem AcM.reset {B base : Nat} {a : AcV} {nws : List (Bool × Int × Int)} {frs cms : List (Int × ByteArray)} {drs : List Int} {W : World} (h : AcM B base a nws frs cms drs W) {v : Value} {nws' : List (Bool × Int × Int)} (ho : W.ownsRow base 82 3 v nws'.length (RC nws')) :
    AcM B base { a with wrt := v, rep := true } nws' frs cms drs ((W.setCell ⟨B, 1, none⟩ v).setCell ⟨B, 3, none⟩ (.bool true)) ∧ W.grownBy ((W.setCell ⟨B, 1, none⟩ v).setCell ⟨B, 3, none⟩ (.bool true)) (some B) := by
  have hg := grown_cellOf (grown_cellOf (grown_self W (some B)) 1 v) 3 (.bool true)
  have hB := (h.blk.setRec v).setRep true
  exact ⟨⟨hB, ho.kept hg (.inr (row_not ho h.blk (fun c e => (by cases e)))), h.frm.kept hg (.inr (row_not h.frm h.blk (fun c e => (by cases e)))), h.cam.kept hg (.inr (row_not h.cam h.blk (fun c e => (by cases e)))), h.drp.kept hg (.inr (row_not h.drp h.blk (fun c e => (by cases e))))⟩, hg⟩
theorem AcM.setJrn {B base : Nat} {a : AcV} {nws : List (Bool × Int × Int)} {frs cms : List (Int × ByteArray)} {drs : List Int} {W : World} (h : AcM B base a nws frs cms drs W) (b : ByteArray) :
    AcM B base { a with jrn := b } nws frs cms drs (W.setCell ⟨B, 2, none⟩ (.string b)) ∧ W.grownBy (W.setCell ⟨B, 2, none⟩ (.string b)) (some B) := by
  have hg := grown_cellOf (grown_self W (some B)) 2 (.string b)
  exact ⟨⟨h.blk.setJrn b, h.wrt.kept hg (.inr (row_not h.wrt h.blk (fun c e => (by cases e)))), h.frm.kept hg (.inr (row_not h.frm h.blk (fun c e => (by cases e)))), h.cam.kept hg (.inr (row_not h.cam h.blk (fun c e => (by cases e)))), h.drp.kept hg (.inr (row_not h.drp h.blk (fun c e => (by cases e))))⟩, hg⟩
/-- What a call of a node ends with. -/
def FinP (N B : Nat) (g : NdG) (s s' : St) (TL : List Hp.Tm) (w : World) (e : Ending) (w' : World) : Prop := ∃ g', e = .returned (outV s'.jrn s'.rep g'.a.frm g'.a.cam g'.a.drp) ∧ Nd N B g' s' TL w' ∧ Up B (Ft N g s) (Ft N g' s') w w' ∧ Hid (g'.x.T = g.x.T)

set_option maxRecDepth 100000 in
set_option maxHeartbeats 8000000 in
theorem N_finish {N B : Nat} {g : NdG} {s : St} {TL : List Hp.Tm} {w : World} (n : Nd N B g s TL w) (hd : s.Dom) (hc : 0 ≤ s.cnt ∧ s.cnt ≤ 900000) (hw : s.nws.length ≤ 80000) (hbd : RBd s.nws) (hq : U32 s.seq) :
    Calls Tryz.prog 48 #[.pointer (some ⟨N, 0, none⟩), .pointer (some ⟨B, 0, none⟩)] w (FinP N B g s s.finish TL w) := by
  have hA := n.nn.cr.tb.ok
  have hb0 : Below w.heap.size w (w.alloc outZ) := (Below.refl _ _).alloc (Nat.le_refl _) _
  have hC0 : (w.alloc outZ).heap[w.heap.size]? = some outZ := heap_alloc_new _ _
  have hCn : ¬ Ft N g s w.heap.size := n.new (Nat.le_refl _)
  have hBC : B < w.heap.size := n.ac.blk.lt
  have n0 := n.later hb0
  have HW := hide (N_write n0 hd (by omega) (by omega))
  obtain ⟨s1, hs1⟩ : ∃ z, s.write = z := ⟨_, rfl⟩
  have hd1 : s1.Dom := by rw [← hs1]; exact dom_write hd hA hq
  have hall : ∀ y ∈ s1.A, (s1.f y.dest).isSome = true := by rw [← hs1]; exact newsP_all
  have hbd1 : RBd s1.nws := by rw [← hs1]; exact RBd_append hbd (newsP_bd hq s.f hA)
  have hlen := newsP_len s.seq s.own s.f s.A
  have hA8 := n.nn.cr.tb.len
  have hn1 : s1.nws.length ≤ 90000 := by
    rw [← hs1]
    show (s.nws ++ _).length ≤ _
    rw [List.length_append]
    omega
  have hc1 : 0 ≤ s1.cnt ∧ s1.cnt ≤ 1000000 := by
    rw [← hs1]
    show 0 ≤ s.cnt + _ ∧ s.cnt + _ ≤ _
    omega
  obtain ⟨s2, hs2⟩ : ∃ z, s.finish = z := ⟨_, rfl⟩
  rw [hs2]
  have hs2' : Hid ((if s1.cnt > 24 then { s1 with nws := s1.cmp, cnt := s1.cmp.length, rep := true } else s1) = s2) := by
    show _ = _
    rw [← hs2, ← hs1]
    rfl
  rw [hs1] at HW
  have hd1 := hide hd1
  have hall := hide hall
  have hbd1 := hide hbd1
  have hn1 := hide hn1
  clear hs1 hs2 hd hc hw hbd hlen hA8 n
  dsimp only [outZ] at hb0 hC0 HW
  go_enter Tryz.func48, Tryz.ntmps48
  go_upto_region 1 with (fail)
  generalize World.alloc _ _ = W1 at hb0 hC0 HW n0 ⊢
  go_wp2_with fail
  refine Calls.mono HW.out ?_
  rintro e w2 ⟨rfl, g2, n2, u2, t2⟩
  obtain ⟨hC2, hCn2⟩ := u2.keep hC0 hCn (ou_offA _)
  have ua2 := (Up.below hb0 : Up B (Ft N g s) (Ft N g s) w W1).trans u2
  clear HW hC0 hb0 u2 n0 hCn
  obtain ⟨m0, m2, m3, m4, m5, m6, m7, m8, m9, m10⟩ := n2.nn.cr.nd.cell
  rw [n2.nn.eq.cnt] at m10
  obtain ⟨b0, b1, b2, b3, b4, b5, b6⟩ := n2.ac.blk.cell
  have hCg : w.heap.size ≤ w.heap.size := Nat.le_refl _
  generalize hCC : w.heap.size = C at hC2 hCn2 hBC hCg ⊢
  replace hCC := hide hCC
  by_cases h24 : s1.cnt > 24
  · have hd24 : decide (24 < s1.cnt) = true := decide_eq_true (by omega)
    replace hs2' := hide ((if_pos h24).symm.trans hs2'.out)
    clear h24
    have hz2 := n2.nn.cr.size_le hd1.out.on
    have hown := hd1.out.own
    rw [← n2.nn.eq.own] at hown
    have HC := hide (compact_any N g2.x s1.f g2.sz w2 n2.nn.cr.nd n2.nn.cr.mo hd1.out.mb hown (by omega))
    go_wp2_with fail
    refine Calls.mono HC.out ?_
    rintro e w3 ⟨v3, out, rfl, hcmp, hr3, hN3, hM3, hf3⟩
    have hout : out = s1.cmp := by
      rw [n2.nn.eq.own] at hcmp
      exact hcmp.unique (cmp_is n2.nn.cr.tb.asc hd1.out.on hall.out)
    have ho8 : out.length ≤ 9 := by
      rw [hout]
      have := n2.nn.cr.tb.len
      simp only [St.cmp, ownP, othP, List.length_append, List.length_map, List.length_cons, List.length_nil]
      omega
    clear HC hcmp
    have hNA : ∀ k, AcIn B g2.a k → ¬ k = N := fun k hk e => n2.ac.notN n2.nn (.inl (.inl e)) hk
    have ac3 := n2.ac.kept (W' := w3) fun k hk => hf3.block k (n2.ac.lt hk) (hNA k hk)
    have hr3' : w3.ownsRow (B + 1) 82 3 v3 out.length (RC out) := ownsRow_base_a hr3 n2.base
    obtain ⟨ac4, hg4⟩ := ac3.reset hr3'
    have hB3 := ac3.blk
    have hNBk : N ≠ B := fun e => hNA B (.inl rfl) e.symm
    have hN4 : NdB N { g2.x with cnt := out.length } ((w3.setCell ⟨B, 1, none⟩ v3).setCell ⟨B, 3, none⟩ (.bool true)) := hN3.kept hg4 (fun e => hNBk (Option.some.inj e).symm)
    have hMB : g2.x.Mo ≠ B := fun e => n2.ac.notN n2.nn (.inl (.inr (.inl rfl))) (.inl e)
    have hM4 : MapU ((w3.setCell ⟨B, 1, none⟩ v3).setCell ⟨B, 3, none⟩ (.bool true)) g2.x.Mo s1.f g2.sz := hM3.kept hg4 (fun e => hMB (Option.some.inj e))
    have hfx : Fx (fun k => k = N ∨ k = B) w2 ((w3.setCell ⟨B, 1, none⟩ v3).setCell ⟨B, 3, none⟩ (.bool true)) := grown_Fx (hf3.mono fun _ h => .inl h) hg4 (fun i _ e => .inr (Option.some.inj e).symm)
    have hT4 : MT g2.x.self g2.x.T g2.M g2.ff g2.gg s1.A ((w3.setCell ⟨B, 1, none⟩ v3).setCell ⟨B, 3, none⟩ (.bool true)) := n2.nn.cr.tb.kept fun k hk => hfx.block k (n2.nn.cr.tb.lt hk) (by
      rintro (rfl | rfl)
      · exact n2.nn.cr.tb.not (fun e => by
          obtain ⟨es, cl, hm⟩ := n2.nn.cr.tb.map.obj
          rw [← e, show w2.heap[k]? = _ from n2.nn.cr.nd] at hm
          cases hm) n2.nn.cr.nd (nd_offT _) hk
      · exact n2.ac.notN n2.nn (.inl (.inr (.inr hk))) (.inl rfl))
    have hCf : ((w3.setCell ⟨B, 1, none⟩ v3).setCell ⟨B, 3, none⟩ (.bool true)).heap[C]? = w2.heap[C]? := hfx.block C (some_lt hC2) (by
      rintro (rfl | h)
      · exact hCn2 (.inl (.inl rfl))
      · omega)
    obtain ⟨e1, e2, e3, e4, e5, e6, e7, e8, e9⟩ := n2.nn.eq
    obtain ⟨n4, u4⟩ := n2.core (s' := { s1 with nws := out, cnt := out.length, rep := true }) ⟨hN4, hM4, hT4, n2.nn.cr.ne⟩ ac4 (hfx.mono fun k h => by
      rcases h with rfl | rfl
      · exact .inl (.inl rfl)
      · exact .inr (.inl rfl)) (fun k hk => hk) ⟨rfl, rfl, rfl, rfl, rfl⟩ ⟨e1, e2, e3, e4, e5, e6, e7, rfl, e9⟩ ⟨rfl, rfl, rfl, rfl, rfl⟩ n2.nn.siz n2.now rfl
    have hC4 := hCf.trans hC2
    have hs4 : Hid (({ s1 with nws := out, cnt := out.length, rep := true } : St) = s2) := by
      show _ = _
      rw [hout]
      exact hs2'.out
    have hb4 : Hid (RBd s2.nws) := by
      show RBd _
      rw [← hs4.out]
      intro x hx
      have hx' : x ∈ out := hx
      rw [hout] at hx'
      simp only [St.cmp, ownP, othP, List.mem_append, List.mem_singleton, List.mem_map] at hx'
      have h1 := hd1.out.own
      rcases hx' with rfl | ⟨a, ha, rfl⟩
      · unfold U32 at h1
        dsimp only
        omega
      · obtain ⟨y, hy, rfl⟩ := ha
        have h2 := (n2.nn.cr.tb.ok y hy).dest
        have h3 := hd1.out.mb.getD y.dest
        unfold U32 at h2 h3
        dsimp only
        omega
    have hl4 : Hid (s2.nws.length ≤ 90000) := by
      show _ ≤ _
      rw [← hs4.out]
      show out.length ≤ _
      omega
    rw [hs4.out] at n4 u4
    have hCn4 : ¬ Ft N _ s2 C := fun h => (u4.sub C h).elim hCn2 (by have := some_lt hC2; omega)
    have ua4 := ua2.trans u4
    have t4 : Hid (({ g2 with x := { g2.x with cnt := (out.length : Int) }, a := { g2.a with wrt := v3, rep := true } } : NdG).x.T = g.x.T) := t2
    have hBC4 : B < C := hBC
    obtain ⟨a3', c3', hv3, _⟩ := row_form hr3
    have fB1 := hB3.free 1
    have fB3 := hB3.free 3
    obtain ⟨x0, x1, x2, x3, x4, x5, x6⟩ := hB3.cell
    subst hv3
    generalize ({ g2 with x := { g2.x with cnt := (out.length : Int) }, a := { g2.a with wrt := .slice a3' out.length c3', rep := true } } : NdG) = g4 at n4 u4 hCn4 ua4 t4
    clear n2 ua2 hN3 hM3 hf3 hr3 hr3' ac3 ac4 hg4 hB3 hN4 hM4 hfx hT4 hCf hC2 hCn2 u4 m0 m2 m3 m4 m5 m6 m7 m8 m9 m10 b0 b1 b2 b3 b4 b5 b6 e1 e2 e3 e4 e5 e6 e7 e8 e9 hs2' hNA hout ho8 hown hz2 hall hbd1 hn1 hd1 hs4
    go_upto_region 5 with (fail)
    generalize World.setCell _ _ _ = W4 at n4 ua4 hC4 ⊢
    clear x0 x1 x2 x3 x4 x5 x6 fB1 fB3
    obtain ⟨b0, b1, b2, b3, b4, b5, b6⟩ := n4.ac.blk.cell
    obtain ⟨a7, k7, hv7, hH7⟩ := row_form n4.ac.wrt
    rw [hv7] at b1
    have HJ := hide (journalText_any a7 s2.nws.length k7 s2.nws rfl (by have := hl4.out; omega) hb4.out W4 hH7)
    clear hv7 hH7
    go_wp2_with fail
    refine Calls.mono HJ.out ?_
    rintro e w5 ⟨rfl, hb5⟩
    have n5 := n4.later hb5
    have hC5 := (hb5.block C (some_lt hC4)).trans hC4
    have ua5 := ua4.trans (.below hb5 : Up B (Ft N g4 s2) (Ft N g4 s2) W4 w5)
    have hCa5 : ¬ AcIn B g4.a C := fun h => n5.ac.kinds h hC5 (ou_offA _)
    clear HJ n4 ua4 hC4 hb5 b0 b1 b2 b3 b4 b5 b6
    obtain ⟨b0, b1, b2, b3, b4, b5, b6⟩ := n5.ac.blk.cell
    have f2 := n5.ac.blk.free 2
    rw [show strOfNums (flatR s2.nws) = s2.jrn from rfl]
    obtain ⟨ac6, hg6⟩ := n5.ac.setJrn s2.jrn
    obtain ⟨n6, u6⟩ := n5.act (s' := s2) ac6 (Fx.grown hg6 fun k e => by cases e; exact .inl rfl) ⟨rfl, rfl, rfl, rfl, rfl, rfl, rfl, rfl, rfl, rfl, rfl, rfl, rfl, rfl, rfl⟩ n5.now n5.rep
    have hC6 := (hg6.block C (some_lt hC5) (fun e => by have := Option.some.inj e; omega)).trans hC5
    have ua6 := ua5.trans u6
    have hCn6 : ¬ Ft N { g4 with a := { g4.a with jrn := s2.jrn } } s2 C := hCn4
    have hCa6 : ¬ AcIn B ({ g4 with a := { g4.a with jrn := s2.jrn } } : NdG).a C := hCa5
    have t6 : Hid (({ g4 with a := { g4.a with jrn := s2.jrn } } : NdG).x.T = g.x.T) := t4
    have hj6 : ({ g4 with a := { g4.a with jrn := s2.jrn } } : NdG).a.jrn = s2.jrn := rfl
    generalize ({ g4 with a := { g4.a with jrn := s2.jrn } } : NdG) = g6 at n6 ua6 hCn6 hCa6 t6 hj6
    clear ac6 hg6 u6 n5 ua5 hC5
    go_upto_region 6 with (fail)
    generalize World.setCell _ _ _ = W6 at n6 ua6 hC6 ⊢
    clear b0 b1 b2 b3 b4 b5 b6 f2
    obtain ⟨b0, b1, b2, b3, b4, b5, b6⟩ := n6.ac.blk.cell
    rw [hj6] at b2
    rw [n6.rep] at b3
    obtain ⟨af, kf, hf, _⟩ := row_form n6.ac.frm
    obtain ⟨ac, kc, hc, _⟩ := row_form n6.ac.cam
    obtain ⟨ad, kd, hdd, _⟩ := row_form n6.ac.drp
    rw [hf] at b4
    rw [hc] at b5
    rw [hdd] at b6
    have q0 : W6.cell? ⟨C, 0, none⟩ = some (.string ⟨#[]⟩) := cell_of_row _ _ 0 _ _ _ hC6
    have q1 : W6.cell? ⟨C, 1, none⟩ = some (.bool false) := cell_of_row _ _ 1 _ _ _ hC6
    have q2 : W6.cell? ⟨C, 2, none⟩ = some (.slice none 0 0) := cell_of_row _ _ 2 _ _ _ hC6
    have q3 : W6.cell? ⟨C, 3, none⟩ = some (.slice none 0 0) := cell_of_row _ _ 3 _ _ _ hC6
    have q4 : W6.cell? ⟨C, 4, none⟩ = some (.slice none 0 0) := cell_of_row _ _ 4 _ _ _ hC6
    have z0 := frozen_of_row W6 C 0 _ _ hC6
    have z1 := frozen_of_row W6 C 1 _ _ hC6
    have z2 := frozen_of_row W6 C 2 _ _ hC6
    have z3 := frozen_of_row W6 C 3 _ _ hC6
    have z4 := frozen_of_row W6 C 4 _ _ hC6
    have hgC := grown_cellOf (grown_cellOf (grown_cellOf (grown_cellOf (grown_cellOf (grown_self W6 (some C)) 0 (.string s2.jrn)) 1 (.bool s2.rep)) 2 (.slice af s2.frs.length kf)) 3 (.slice ac s2.cms.length kc)) 4 (.slice ad s2.drs.length kd)
    have hC7 : (((((W6.setCell ⟨C, 0, none⟩ (.string s2.jrn)).setCell ⟨C, 1, none⟩ (.bool s2.rep)).setCell ⟨C, 2, none⟩ (.slice af s2.frs.length kf)).setCell ⟨C, 3, none⟩ (.slice ac s2.cms.length kc)).setCell ⟨C, 4, none⟩ (.slice ad s2.drs.length kd)).heap[C]? = some (.cells #[.string s2.jrn, .bool s2.rep, .slice af s2.frs.length kf, .slice ac s2.cms.length kc, .slice ad s2.drs.length kd] 52) := by
      simp [World.setCell, Array.getElem?_modify, hC6]
    have n7 := n6.off (S := fun k => k = C) (Fx.grown hgC fun k e => by cases e; rfl) (by rintro k rfl; exact ⟨hCn6, hCa6⟩)
    have u7 := ua6.fresh hgC (by rw [hCC.out]; exact Nat.le_refl _)
    have hBCn : C ≠ B := by omega
    clear hgC n6 ua6
    go_wp2
    generalize World.setCell _ _ _ = W7 at hC7 n7 u7 ⊢
    have p0 : W7.cell? ⟨C, 0, none⟩ = some (.string s2.jrn) := cell_of_row _ _ 0 _ _ _ hC7
    have p1 : W7.cell? ⟨C, 1, none⟩ = some (.bool s2.rep) := cell_of_row _ _ 1 _ _ _ hC7
    have p2 : W7.cell? ⟨C, 2, none⟩ = some (.slice af s2.frs.length kf) := cell_of_row _ _ 2 _ _ _ hC7
    have p3 : W7.cell? ⟨C, 3, none⟩ = some (.slice ac s2.cms.length kc) := cell_of_row _ _ 3 _ _ _ hC7
    have p4 : W7.cell? ⟨C, 4, none⟩ = some (.slice ad s2.drs.length kd) := cell_of_row _ _ 4 _ _ _ hC7
    refine bodyPost_ret (v := .agg #[.string s2.jrn, .bool s2.rep, .slice af s2.frs.length kf, .slice ac s2.cms.length kc, .slice ad s2.drs.length kd]) (by simp [results, Tryz.results48, go_sem, p0, p1, p2, p3, p4]) rfl ⟨g6, ?_, n7, u7, t6⟩
    rw [hf, hc, hdd]
    rfl

  · have hd24 : decide (24 < s1.cnt) = false := decide_eq_false (by omega)
    replace hs2' := hide ((if_neg h24).symm.trans hs2'.out)
    have hb4 : Hid (RBd s2.nws) := by rw [← hs2'.out]; exact hbd1
    have hl4 : Hid (s2.nws.length ≤ 90000) := by rw [← hs2'.out]; exact hn1
    have n4 := n2
    have ua4 := ua2
    have hC4 := hC2
    have hCn4 := hCn2
    rw [hs2'.out] at n4 ua4 hCn4
    have t4 := t2
    have hBC4 := hBC
    clear n2 ua2 hC2 hCn2 hs2' h24 b0 b1 b2 b3 b4 b5 b6 m0 m2 m3 m4 m5 m6 m7 m8 m9 hall hbd1 hn1 hd1
    go_upto_region 5 with (fail)
    clear m10
    obtain ⟨b0, b1, b2, b3, b4, b5, b6⟩ := n4.ac.blk.cell
    obtain ⟨a7, k7, hv7, hH7⟩ := row_form n4.ac.wrt
    rw [hv7] at b1
    have HJ := hide (journalText_any a7 s2.nws.length k7 s2.nws rfl (by have := hl4.out; omega) hb4.out w2 hH7)
    clear hv7 hH7
    go_wp2_with fail
    refine Calls.mono HJ.out ?_
    rintro e w5 ⟨rfl, hb5⟩
    have n5 := n4.later hb5
    have hC5 := (hb5.block C (some_lt hC4)).trans hC4
    have ua5 := ua4.trans (.below hb5 : Up B (Ft N g2 s2) (Ft N g2 s2) w2 w5)
    have hCa5 : ¬ AcIn B g2.a C := fun h => n5.ac.kinds h hC5 (ou_offA _)
    clear HJ n4 ua4 hC4 hb5 b0 b1 b2 b3 b4 b5 b6
    obtain ⟨b0, b1, b2, b3, b4, b5, b6⟩ := n5.ac.blk.cell
    have f2 := n5.ac.blk.free 2
    rw [show strOfNums (flatR s2.nws) = s2.jrn from rfl]
    obtain ⟨ac6, hg6⟩ := n5.ac.setJrn s2.jrn
    obtain ⟨n6, u6⟩ := n5.act (s' := s2) ac6 (Fx.grown hg6 fun k e => by cases e; exact .inl rfl) ⟨rfl, rfl, rfl, rfl, rfl, rfl, rfl, rfl, rfl, rfl, rfl, rfl, rfl, rfl, rfl⟩ n5.now n5.rep
    have hC6 := (hg6.block C (some_lt hC5) (fun e => by have := Option.some.inj e; omega)).trans hC5
    have ua6 := ua5.trans u6
    have hCn6 : ¬ Ft N { g2 with a := { g2.a with jrn := s2.jrn } } s2 C := hCn4
    have hCa6 : ¬ AcIn B ({ g2 with a := { g2.a with jrn := s2.jrn } } : NdG).a C := hCa5
    have t6 : Hid (({ g2 with a := { g2.a with jrn := s2.jrn } } : NdG).x.T = g.x.T) := t4
    have hj6 : ({ g2 with a := { g2.a with jrn := s2.jrn } } : NdG).a.jrn = s2.jrn := rfl
    generalize ({ g2 with a := { g2.a with jrn := s2.jrn } } : NdG) = g6 at n6 ua6 hCn6 hCa6 t6 hj6
    clear ac6 hg6 u6 n5 ua5 hC5
    go_upto_region 6 with (fail)
    generalize World.setCell _ _ _ = W6 at n6 ua6 hC6 ⊢
    clear b0 b1 b2 b3 b4 b5 b6 f2
    obtain ⟨b0, b1, b2, b3, b4, b5, b6⟩ := n6.ac.blk.cell
    rw [hj6] at b2
    rw [n6.rep] at b3
    obtain ⟨af, kf, hf, _⟩ := row_form n6.ac.frm
    obtain ⟨ac, kc, hc, _⟩ := row_form n6.ac.cam
    obtain ⟨ad, kd, hdd, _⟩ := row_form n6.ac.drp
    rw [hf] at b4
    rw [hc] at b5
    rw [hdd] at b6
    have q0 : W6.cell? ⟨C, 0, none⟩ = some (.string ⟨#[]⟩) := cell_of_row _ _ 0 _ _ _ hC6
    have q1 : W6.cell? ⟨C, 1, none⟩ = some (.bool false) := cell_of_row _ _ 1 _ _ _ hC6
    have q2 : W6.cell? ⟨C, 2, none⟩ = some (.slice none 0 0) := cell_of_row _ _ 2 _ _ _ hC6
    have q3 : W6.cell? ⟨C, 3, none⟩ = some (.slice none 0 0) := cell_of_row _ _ 3 _ _ _ hC6
    have q4 : W6.cell? ⟨C, 4, none⟩ = some (.slice none 0 0) := cell_of_row _ _ 4 _ _ _ hC6
    have z0 := frozen_of_row W6 C 0 _ _ hC6
    have z1 := frozen_of_row W6 C 1 _ _ hC6
    have z2 := frozen_of_row W6 C 2 _ _ hC6
    have z3 := frozen_of_row W6 C 3 _ _ hC6
    have z4 := frozen_of_row W6 C 4 _ _ hC6
    have hgC := grown_cellOf (grown_cellOf (grown_cellOf (grown_cellOf (grown_cellOf (grown_self W6 (some C)) 0 (.string s2.jrn)) 1 (.bool s2.rep)) 2 (.slice af s2.frs.length kf)) 3 (.slice ac s2.cms.length kc)) 4 (.slice ad s2.drs.length kd)
    have hC7 : (((((W6.setCell ⟨C, 0, none⟩ (.string s2.jrn)).setCell ⟨C, 1, none⟩ (.bool s2.rep)).setCell ⟨C, 2, none⟩ (.slice af s2.frs.length kf)).setCell ⟨C, 3, none⟩ (.slice ac s2.cms.length kc)).setCell ⟨C, 4, none⟩ (.slice ad s2.drs.length kd)).heap[C]? = some (.cells #[.string s2.jrn, .bool s2.rep, .slice af s2.frs.length kf, .slice ac s2.cms.length kc, .slice ad s2.drs.length kd] 52) := by
      simp [World.setCell, Array.getElem?_modify, hC6]
    have n7 := n6.off (S := fun k => k = C) (Fx.grown hgC fun k e => by cases e; rfl) (by rintro k rfl; exact ⟨hCn6, hCa6⟩)
    have u7 := ua6.fresh hgC (by rw [hCC.out]; exact Nat.le_refl _)
    have hBCn : C ≠ B := by omega
    clear hgC n6 ua6
    go_wp2
    generalize World.setCell _ _ _ = W7 at hC7 n7 u7 ⊢
    have p0 : W7.cell? ⟨C, 0, none⟩ = some (.string s2.jrn) := cell_of_row _ _ 0 _ _ _ hC7
    have p1 : W7.cell? ⟨C, 1, none⟩ = some (.bool s2.rep) := cell_of_row _ _ 1 _ _ _ hC7
    have p2 : W7.cell? ⟨C, 2, none⟩ = some (.slice af s2.frs.length kf) := cell_of_row _ _ 2 _ _ _ hC7
    have p3 : W7.cell? ⟨C, 3, none⟩ = some (.slice ac s2.cms.length kc) := cell_of_row _ _ 3 _ _ _ hC7
    have p4 : W7.cell? ⟨C, 4, none⟩ = some (.slice ad s2.drs.length kd) := cell_of_row _ _ 4 _ _ _ hC7
    refine bodyPost_ret (v := .agg #[.string s2.jrn, .bool s2.rep, .slice af s2.frs.length kf, .slice ac s2.cms.length kc, .slice ad s2.drs.length kd]) (by simp [results, Tryz.results48, go_sem, p0, p1, p2, p3, p4]) rfl ⟨g6, ?_, n7, u7, t6⟩
    rw [hf, hc, hdd]
    rfl

end Go.Proofs.YtakaadcpaeiccabGreat
