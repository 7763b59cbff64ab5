import Derived.Test.YtakaadcpaeiccabGreatC29
import Derived.Test.YtakaadcpaeiccabGreatC27
import Derived.Test.YtakaadcpaeiccabGreatProg
import Derived.Conc.MuLone
import Derived.KernelRfl
import Derived.Deep.QuietTactic
namespace Go.Proofs.YtakaadcpaeiccabGreat
open Go.RowKit Go.Maps

/-! What each call of a node ends with. -/
theorem Nd.off {N B : Nat} {g : NdG} {s : St} {TL : List Hp.Tm} {W W' : World} (n : Nd N B g s TL W) {S : Nat → Prop} (hf : Fx S W W') (hS : ∀ k, S k → ¬ Ft N g s k ∧ ¬ AcIn B g.a k) : Nd N B g s TL W' :=
  ⟨n.nn.kept fun k hk => hf.block k (n.nn.lt hk) fun h => (hS k h).1 hk, n.ac.kept fun k hk => hf.block k (n.ac.lt hk) fun h => (hS k h).2 hk, n.now, n.rep⟩
theorem Up.fresh {B : Nat} {F F' : Nat → Prop} {a b c : World} (u : Up B F F' a b) {C : Nat} (h : b.grownBy c (some C)) (hC : a.heap.size ≤ C) : Up B F F' a c :=
  ⟨fun k hk => (u.sub k hk).imp_right fun ⟨h1, h2⟩ => ⟨h1, Nat.lt_of_lt_of_le h2 h.size⟩, h.os.trans u.os, h.tape.trans u.tape, h.output.trans u.output, Nat.le_trans u.size h.size, fun k o ho hn hA => by
    have h1 := u.block k o ho hn hA
    exact (h.block k (some_lt h1) fun e => by
      have := some_lt ho
      have := Option.some.inj e
      omega).trans h1⟩
theorem ou_offA (c : Array Value) : offA (.cells c 52 (0, 0)) := ⟨fun c e => (by cases e), fun c e => (by cases e), fun c e => (by cases e), fun c e => (by cases e), fun c e => (by cases e)⟩
/-- The compact journal is what the program's compaction gives. -/
theorem cmp_is {s : St} (ha : Asc s.A) (hd : ∀ d, (s.f d).isSome = true → ∃ y ∈ s.A, y.dest = d) (hall : ∀ y ∈ s.A, (s.f y.dest).isSome = true) : IsCmp s.f (some s.own) s.cmp := by
  refine ⟨s.A.map (fun y => y.dest), (List.pairwise_map (f := fun y : Rt => y.dest) (R := fun a b : Int => a < b)).2 ha, fun a => ⟨fun h => ?_, fun h => ?_⟩, rfl⟩
  · obtain ⟨y, hy, rfl⟩ := List.mem_map.1 h
    exact hall y hy
  · obtain ⟨y, hy, rfl⟩ := hd a h
    exact List.mem_map.2 ⟨y, hy, rfl⟩
/-- What is written becomes a new list. -/
theorem AcM.reset {B base : Nat} {a : AcV} {nws : List (Bool × Int × Int)} {frs cms : List (Int × ByteArray)} {drs : List Int} {W : World} (h : AcM B base a nws frs cms drs W) {v : Value} {nws' : List (Bool × Int × Int)} (ho : W.ownsRow base 82 3 v nws'.length (RC nws')) :
    AcM B base { a with wrt := v, rep := true } nws' frs cms drs ((W.setCell ⟨B, 1, none⟩ v).setCell ⟨B, 3, none⟩ (.bool true)) ∧ W.grownBy ((W.setCell ⟨B, 1, none⟩ v).setCell ⟨B, 3, none⟩ (.bool true)) (some B) := by
  have hg := grown_cellOf (grown_cellOf (grown_self W (some B)) 1 v) 3 (.bool true)
  have hB := (h.blk.setRec v).setRep true
  exact ⟨⟨hB, ho.kept hg (.inr (row_not ho h.blk (fun c e => (by cases e)))), h.frm.kept hg (.inr (row_not h.frm h.blk (fun c e => (by cases e)))), h.cam.kept hg (.inr (row_not h.cam h.blk (fun c e => (by cases e)))), h.drp.kept hg (.inr (row_not h.drp h.blk (fun c e => (by cases e))))⟩, hg⟩
theorem AcM.setJrn {B base : Nat} {a : AcV} {nws : List (Bool × Int × Int)} {frs cms : List (Int × ByteArray)} {drs : List Int} {W : World} (h : AcM B base a nws frs cms drs W) (b : ByteArray) :
    AcM B base { a with jrn := b } nws frs cms drs (W.setCell ⟨B, 2, none⟩ (.string b)) ∧ W.grownBy (W.setCell ⟨B, 2, none⟩ (.string b)) (some B) := by
  have hg := grown_cellOf (grown_self W (some B)) 2 (.string b)
  exact ⟨⟨h.blk.setJrn b, h.wrt.kept hg (.inr (row_not h.wrt h.blk (fun c e => (by cases e)))), h.frm.kept hg (.inr (row_not h.frm h.blk (fun c e => (by cases e)))), h.cam.kept hg (.inr (row_not h.cam h.blk (fun c e => (by cases e)))), h.drp.kept hg (.inr (row_not h.drp h.blk (fun c e => (by cases e))))⟩, hg⟩
/-- What a call of a node ends with. -/
def FinP (N B : Nat) (g : NdG) (s s' : St) (TL : List Hp.Tm) (w : World) (e : Ending) (w' : World) : Prop := ∃ g', e = .returned (outV s'.jrn s'.rep g'.a.frm g'.a.cam g'.a.drp) ∧ Nd N B g' s' TL w' ∧ Up B (Ft N g s) (Ft N g' s') w w' ∧ Hid (g'.x.T = g.x.T)

set_option maxRecDepth 100000 in
set_option maxHeartbeats 8000000 in
theorem N_finish {N B : Nat} {g : NdG} {s : St} {TL : List Hp.Tm} {w : World} (n : Nd N B g s TL w) (hd : s.Dom) (hc : 0 ≤ s.cnt ∧ s.cnt ≤ 900000) (hw : s.nws.length ≤ 80000) (hbd : RBd s.nws) (hq : U32 s.seq) :
    Calls Tryz.prog 48 #[.pointer (some ⟨N, 0, none⟩), .pointer (some ⟨B, 0, none⟩)] w (FinP N B g s s.finish TL w) := by
  have hA := n.nn.cr.tb.ok
  have hb0 : Below w.heap.size w (w.alloc outZ) := (Below.refl _ _).alloc (Nat.le_refl _) _
  have hC0 : (w.alloc outZ).heap[w.heap.size]? = some outZ := heap_alloc_new _ _
  have hCn : ¬ Ft N g s w.heap.size := n.new (Nat.le_refl _)
  have hBC : B < w.heap.size := n.ac.blk.lt
  have n0 := n.later hb0
  have HW := hide (N_write n0 hd (by omega) (by omega))
  obtain ⟨s1, hs1⟩ : ∃ z, s.write = z := ⟨_, rfl⟩
  have hd1 : s1.Dom := by rw [← hs1]; exact dom_write hd hA hq
  have hall : ∀ y ∈ s1.A, (s1.f y.dest).isSome = true := by rw [← hs1]; exact newsP_all
  have hbd1 : RBd s1.nws := by rw [← hs1]; exact RBd_append hbd (newsP_bd hq s.f hA)
  have hlen := newsP_len s.seq s.own s.f s.A
  have hA8 := n.nn.cr.tb.len
  have hn1 : s1.nws.length ≤ 90000 := by
    rw [← hs1]
    show (s.nws ++ _).length ≤ _
    rw [List.length_append]
    omega
  have hc1 : 0 ≤ s1.cnt ∧ s1.cnt ≤ 1000000 := by
    rw [← hs1]
    show 0 ≤ s.cnt + _ ∧ s.cnt + _ ≤ _
    omega
  obtain ⟨s2, hs2⟩ : ∃ z, s.finish = z := ⟨_, rfl⟩
  rw [hs2]
  have hs2' : Hid ((if s1.cnt > 24 then { s1 with nws := s1.cmp, cnt := s1.cmp.length, rep := true } else s1) = s2) := by
    show _ = _
    rw [← hs2, ← hs1]
    rfl
  rw [hs1] at HW
  have hd1 := hide hd1
  have hall := hide hall
  have hbd1 := hide hbd1
  have hn1 := hide hn1
  clear hs1 hs2 hd hc hw hbd hlen hA8 n
  dsimp only [outZ] at hb0 hC0 HW
  go_enter Tryz.func48, Tryz.ntmps48
  go_upto_region 1 with (fail)
  generalize World.alloc _ _ = W1 at hb0 hC0 HW n0 ⊢
  go_wp2_with fail
  refine Calls.mono HW.out ?_
  rintro e w2 ⟨rfl, g2, n2, u2, t2⟩
  obtain ⟨hC2, hCn2⟩ := u2.keep hC0 hCn (ou_offA _)
  have ua2 := (Up.below hb0 : Up B (Ft N g s) (Ft N g s) w W1).trans u2
  clear HW hC0 hb0 u2 n0 hCn
  obtain ⟨m0, m2, m3, m4, m5, m6, m7, m8, m9, m10⟩ := n2.nn.cr.nd.cell
  rw [n2.nn.eq.cnt] at m10
  obtain ⟨b0, b1, b2, b3, b4, b5, b6⟩ := n2.ac.blk.cell
  have hCg : w.heap.size ≤ w.heap.size := Nat.le_refl _
  generalize hCC : w.heap.size = C at hC2 hCn2 hBC hCg ⊢
  replace hCC := hide hCC
  by_cases h24 : s1.cnt > 24
  · have hd24 : decide (24 < s1.cnt) = true := decide_eq_true (by omega)
    replace hs2' := hide ((if_pos h24).symm.trans hs2'.out)
    clear h24
    have hz2 := n2.nn.cr.size_le hd1.out.on
    have hown := hd1.out.own
    rw [← n2.nn.eq.own] at hown
    have HC := hide (compact_any N g2.x s1.f g2.sz w2 n2.nn.cr.nd n2.nn.cr.mo hd1.out.mb hown (by omega))
    go_wp2_with fail
    refine Calls.mono HC.out ?_
    rintro e w3 ⟨v3, out, rfl, hcmp, hr3, hN3, hM3, hf3⟩
    have hout : out = s1.cmp := by
      rw [n2.nn.eq.own] at hcmp
      exact hcmp.unique (cmp_is n2.nn.cr.tb.asc hd1.out.on hall.out)
    have ho8 : out.length ≤ 9 := by
      rw [hout]
      have := n2.nn.cr.tb.len
      simp only [St.cmp, ownP, othP, List.length_append, List.length_map, List.length_cons, List.length_nil]
      omega
    clear HC hcmp
    have hNA : ∀ k, AcIn B g2.a k → ¬ k = N := fun k hk e => n2.ac.notN n2.nn (.inl (.inl e)) hk
    have ac3 := n2.ac.kept (W' := w3) fun k hk => hf3.block k (n2.ac.lt hk) (hNA k hk)
    have hr3' : w3.ownsRow (B + 1) 82 3 v3 out.length (RC out) := ownsRow_base_a hr3 n2.base
    obtain ⟨ac4, hg4⟩ := ac3.reset hr3'
    have hB3 := ac3.blk
    have hNBk : N ≠ B := fun e => hNA B (.inl rfl) e.symm
    have hN4 : NdB N { g2.x with cnt := out.length } ((w3.setCell ⟨B, 1, none⟩ v3).setCell ⟨B, 3, none⟩ (.bool true)) := hN3.kept hg4 (fun e => hNBk (Option.some.inj e).symm)
    have hMB : g2.x.Mo ≠ B := fun e => n2.ac.notN n2.nn (.inl (.inr (.inl rfl))) (.inl e)
    have hM4 : MapU ((w3.setCell ⟨B, 1, none⟩ v3).setCell ⟨B, 3, none⟩ (.bool true)) g2.x.Mo s1.f g2.sz := hM3.kept hg4 (fun e => hMB (Option.some.inj e))
    have hfx : Fx (fun k => k = N ∨ k = B) w2 ((w3.setCell ⟨B, 1, none⟩ v3).setCell ⟨B, 3, none⟩ (.bool true)) := grown_Fx (hf3.mono fun _ h => .inl h) hg4 (fun i _ e => .inr (Option.some.inj e).symm)
    have hT4 : MT g2.x.self g2.x.T g2.M g2.ff g2.gg s1.A ((w3.setCell ⟨B, 1, none⟩ v3).setCell ⟨B, 3, none⟩ (.bool true)) := n2.nn.cr.tb.kept fun k hk => hfx.block k (n2.nn.cr.tb.lt hk) (by
      rintro (rfl | rfl)
      · exact n2.nn.cr.tb.not (fun e => by
          obtain ⟨es, cl, hm⟩ := n2.nn.cr.tb.map.obj
          rw [← e, show w2.heap[k]? = _ from n2.nn.cr.nd] at hm
          cases hm) n2.nn.cr.nd (nd_offT _) hk
      · exact n2.ac.notN n2.nn (.inl (.inr (.inr hk))) (.inl rfl))
    have hCf : ((w3.setCell ⟨B, 1, none⟩ v3).setCell ⟨B, 3, none⟩ (.bool true)).heap[C]? = w2.heap[C]? := hfx.block C (some_lt hC2) (by
      rintro (rfl | h)
      · exact hCn2 (.inl (.inl rfl))
      · omega)
    obtain ⟨e1, e2, e3, e4, e5, e6, e7, e8, e9⟩ := n2.nn.eq
    obtain ⟨n4, u4⟩ := n2.core (s' := { s1 with nws := out, cnt := out.length, rep := true }) ⟨hN4, hM4, hT4, n2.nn.cr.ne⟩ ac4 (hfx.mono fun k h => by
      rcases h with rfl | rfl
      · exact .inl (.inl rfl)
      · exact .inr (.inl rfl)) (fun k hk => hk) ⟨rfl, rfl, rfl, rfl, rfl⟩ ⟨e1, e2, e3, e4, e5, e6, e7, rfl, e9⟩ ⟨rfl, rfl, rfl, rfl, rfl⟩ n2.nn.siz n2.now rfl
    have hC4 := hCf.trans hC2
    have hs4 : Hid (({ s1 with nws := out, cnt := out.length, rep := true } : St) = s2) := by
      show _ = _
      rw [hout]
      exact hs2'.out
    have hb4 : Hid (RBd s2.nws) := by
      show RBd _
      rw [← hs4.out]
      intro x hx
      have hx' : x ∈ out := hx
      rw [hout] at hx'
      simp only [St.cmp, ownP, othP, List.mem_append, List.mem_singleton, List.mem_map] at hx'
      have h1 := hd1.out.own
      rcases hx' with rfl | ⟨a, ha, rfl⟩
      · unfold U32 at h1
        dsimp only
        omega
      · obtain ⟨y, hy, rfl⟩ := ha
        have h2 := (n2.nn.cr.tb.ok y hy).dest
        have h3 := hd1.out.mb.getD y.dest
        unfold U32 at h2 h3
        dsimp only
        omega
    have hl4 : Hid (s2.nws.length ≤ 90000) := by
      show _ ≤ _
      rw [← hs4.out]
      show out.length ≤ _
      omega
    rw [hs4.out] at n4 u4
    have hCn4 : ¬ Ft N _ s2 C := fun h => (u4.sub C h).elim hCn2 (by have := some_lt hC2; omega)
    have ua4 := ua2.trans u4
    have t4 : Hid (({ g2 with x := { g2.x with cnt := (out.length : Int) }, a := { g2.a with wrt := v3, rep := true } } : NdG).x.T = g.x.T) := t2
    have hBC4 : B < C := hBC
    obtain ⟨a3', c3', hv3, _⟩ := row_form hr3
    have fB1 := hB3.free 1
    have fB3 := hB3.free 3
    obtain ⟨x0, x1, x2, x3, x4, x5, x6⟩ := hB3.cell
    subst hv3
    generalize ({ g2 with x := { g2.x with cnt := (out.length : Int) }, a := { g2.a with wrt := .slice a3' out.length c3', rep := true } } : NdG) = g4 at n4 u4 hCn4 ua4 t4
    clear n2 ua2 hN3 hM3 hf3 hr3 hr3' ac3 ac4 hg4 hB3 hN4 hM4 hfx hT4 hCf hC2 hCn2 u4 m0 m2 m3 m4 m5 m6 m7 m8 m9 m10 b0 b1 b2 b3 b4 b5 b6 e1 e2 e3 e4 e5 e6 e7 e8 e9 hs2' hNA hout ho8 hown hz2 hall hbd1 hn1 hd1 hs4
    go_upto_region 5 with (fail)
    generalize World.setCell _ _ _ = W4 at n4 ua4 hC4 ⊢
    clear x0 x1 x2 x3 x4 x5 x6 fB1 fB3
    obtain ⟨b0, b1, b2, b3, b4, b5, b6⟩ := n4.ac.blk.cell
    obtain ⟨a7, k7, hv7, hH7⟩ := row_form n4.ac.wrt
    rw [hv7] at b1
    have HJ := hide (journalText_any a7 s2.nws.length k7 s2.nws rfl (by have := hl4.out; omega) hb4.out W4 hH7)
    clear hv7 hH7
    go_wp2_with fail
    refine Calls.mono HJ.out ?_
    rintro e w5 ⟨rfl, hb5⟩
    have n5 := n4.later hb5
    have hC5 := (hb5.block C (some_lt hC4)).trans hC4
    have ua5 := ua4.trans (.below hb5 : Up B (Ft N g4 s2) (Ft N g4 s2) W4 w5)
    have hCa5 : ¬ AcIn B g4.a C := fun h => n5.ac.kinds h hC5 (ou_offA _)
    clear HJ n4 ua4 hC4 hb5 b0 b1 b2 b3 b4 b5 b6
    obtain ⟨b0, b1, b2, b3, b4, b5, b6⟩ := n5.ac.blk.cell
    have f2 := n5.ac.blk.free 2
    rw [show strOfNums (flatR s2.nws) = s2.jrn from rfl]
    obtain ⟨ac6, hg6⟩ := n5.ac.setJrn s2.jrn
    obtain ⟨n6, u6⟩ := n5.act (s' := s2) ac6 (Fx.grown hg6 fun k e => by cases e; exact .inl rfl) ⟨rfl, rfl, rfl, rfl, rfl, rfl, rfl, rfl, rfl, rfl, rfl, rfl, rfl, rfl, rfl⟩ n5.now n5.rep
    have hC6 := (hg6.block C (some_lt hC5) (fun e => by have := Option.some.inj e; omega)).trans hC5
    have ua6 := ua5.trans u6
    have hCn6 : ¬ Ft N { g4 with a := { g4.a with jrn := s2.jrn } } s2 C := hCn4
    have hCa6 : ¬ AcIn B ({ g4 with a := { g4.a with jrn := s2.jrn } } : NdG).a C := hCa5
    have t6 : Hid (({ g4 with a := { g4.a with jrn := s2.jrn } } : NdG).x.T = g.x.T) := t4
    have hj6 : ({ g4 with a := { g4.a with jrn := s2.jrn } } : NdG).a.jrn = s2.jrn := rfl
    generalize ({ g4 with a := { g4.a with jrn := s2.jrn } } : NdG) = g6 at n6 ua6 hCn6 hCa6 t6 hj6
    clear ac6 hg6 u6 n5 ua5 hC5
    go_upto_region 6 with (fail)
    generalize World.setCell _ _ _ = W6 at n6 ua6 hC6 ⊢
    clear b0 b1 b2 b3 b4 b5 b6 f2
    obtain ⟨b0, b1, b2, b3, b4, b5, b6⟩ := n6.ac.blk.cell
    rw [hj6] at b2
    rw [n6.rep] at b3
    obtain ⟨af, kf, hf, _⟩ := row_form n6.ac.frm
    obtain ⟨ac, kc, hc, _⟩ := row_form n6.ac.cam
    obtain ⟨ad, kd, hdd, _⟩ := row_form n6.ac.drp
    rw [hf] at b4
    rw [hc] at b5
    rw [hdd] at b6
    have q0 : W6.cell? ⟨C, 0, none⟩ = some (.string ⟨#[]⟩) := cell_of_row _ _ 0 _ _ _ hC6
    have q1 : W6.cell? ⟨C, 1, none⟩ = some (.bool false) := cell_of_row _ _ 1 _ _ _ hC6
    have q2 : W6.cell? ⟨C, 2, none⟩ = some (.slice none 0 0) := cell_of_row _ _ 2 _ _ _ hC6
    have q3 : W6.cell? ⟨C, 3, none⟩ = some (.slice none 0 0) := cell_of_row _ _ 3 _ _ _ hC6
    have q4 : W6.cell? ⟨C, 4, none⟩ = some (.slice none 0 0) := cell_of_row _ _ 4 _ _ _ hC6
    have z0 := frozen_of_row W6 C 0 _ _ hC6
    have z1 := frozen_of_row W6 C 1 _ _ hC6
    have z2 := frozen_of_row W6 C 2 _ _ hC6
    have z3 := frozen_of_row W6 C 3 _ _ hC6
    have z4 := frozen_of_row W6 C 4 _ _ hC6
    have hgC := grown_cellOf (grown_cellOf (grown_cellOf (grown_cellOf (grown_cellOf (grown_self W6 (some C)) 0 (.string s2.jrn)) 1 (.bool s2.rep)) 2 (.slice af s2.frs.length kf)) 3 (.slice ac s2.cms.length kc)) 4 (.slice ad s2.drs.length kd)
    have hC7 : (((((W6.setCell ⟨C, 0, none⟩ (.string s2.jrn)).setCell ⟨C, 1, none⟩ (.bool s2.rep)).setCell ⟨C, 2, none⟩ (.slice af s2.frs.length kf)).setCell ⟨C, 3, none⟩ (.slice ac s2.cms.length kc)).setCell ⟨C, 4, none⟩ (.slice ad s2.drs.length kd)).heap[C]? = some (.cells #[.string s2.jrn, .bool s2.rep, .slice af s2.frs.length kf, .slice ac s2.cms.length kc, .slice ad s2.drs.length kd] 52) := by
      simp [World.setCell, Array.getElem?_modify, hC6]
    have n7 := n6.off (S := fun k => k = C) (Fx.grown hgC fun k e => by cases e; rfl) (by rintro k rfl; exact ⟨hCn6, hCa6⟩)
    have u7 := ua6.fresh hgC (by rw [hCC.out]; exact Nat.le_refl _)
    have hBCn : C ≠ B := by omega
    clear hgC n6 ua6
    go_wp2
    generalize World.setCell _ _ _ = W7 at hC7 n7 u7 ⊢
    have p0 : W7.cell? ⟨C, 0, none⟩ = some (.string s2.jrn) := cell_of_row _ _ 0 _ _ _ hC7
    have p1 : W7.cell? ⟨C, 1, none⟩ = some (.bool s2.rep) := cell_of_row _ _ 1 _ _ _ hC7
    have p2 : W7.cell? ⟨C, 2, none⟩ = some (.slice af s2.frs.length kf) := cell_of_row _ _ 2 _ _ _ hC7
    have p3 : W7.cell? ⟨C, 3, none⟩ = some (.slice ac s2.cms.length kc) := cell_of_row _ _ 3 _ _ _ hC7
    have p4 : W7.cell? ⟨C, 4, none⟩ = some (.slice ad s2.drs.length kd) := cell_of_row _ _ 4 _ _ _ hC7
    refine bodyPost_ret (v := .agg #[.string s2.jrn, .bool s2.rep, .slice af s2.frs.length kf, .slice ac s2.cms.length kc, .slice ad s2.drs.length kd]) (by simp [results, Tryz.results48, go_sem, p0, p1, p2, p3, p4]) rfl ⟨g6, ?_, n7, u7, t6⟩
    rw [hf, hc, hdd]
    rfl

  · have hd24 : decide (24 < s1.cnt) = false := decide_eq_false (by omega)
    replace hs2' := hide ((if_neg h24).symm.trans hs2'.out)
    have hb4 : Hid (RBd s2.nws) := by rw [← hs2'.out]; exact hbd1
    have hl4 : Hid (s2.nws.length ≤ 90000) := by rw [← hs2'.out]; exact hn1
    have n4 := n2
    have ua4 := ua2
    have hC4 := hC2
    have hCn4 := hCn2
    rw [hs2'.out] at n4 ua4 hCn4
    have t4 := t2
    have hBC4 := hBC
    clear n2 ua2 hC2 hCn2 hs2' h24 b0 b1 b2 b3 b4 b5 b6 m0 m2 m3 m4 m5 m6 m7 m8 m9 hall hbd1 hn1 hd1
    go_upto_region 5 with (fail)
    clear m10
    obtain ⟨b0, b1, b2, b3, b4, b5, b6⟩ := n4.ac.blk.cell
    obtain ⟨a7, k7, hv7, hH7⟩ := row_form n4.ac.wrt
    rw [hv7] at b1
    have HJ := hide (journalText_any a7 s2.nws.length k7 s2.nws rfl (by have := hl4.out; omega) hb4.out w2 hH7)
    clear hv7 hH7
    go_wp2_with fail
    refine Calls.mono HJ.out ?_
    rintro e w5 ⟨rfl, hb5⟩
    have n5 := n4.later hb5
    have hC5 := (hb5.block C (some_lt hC4)).trans hC4
    have ua5 := ua4.trans (.below hb5 : Up B (Ft N g2 s2) (Ft N g2 s2) w2 w5)
    have hCa5 : ¬ AcIn B g2.a C := fun h => n5.ac.kinds h hC5 (ou_offA _)
    clear HJ n4 ua4 hC4 hb5 b0 b1 b2 b3 b4 b5 b6
    obtain ⟨b0, b1, b2, b3, b4, b5, b6⟩ := n5.ac.blk.cell
    have f2 := n5.ac.blk.free 2
    rw [show strOfNums (flatR s2.nws) = s2.jrn from rfl]
    obtain ⟨ac6, hg6⟩ := n5.ac.setJrn s2.jrn
    obtain ⟨n6, u6⟩ := n5.act (s' := s2) ac6 (Fx.grown hg6 fun k e => by cases e; exact .inl rfl) ⟨rfl, rfl, rfl, rfl, rfl, rfl, rfl, rfl, rfl, rfl, rfl, rfl, rfl, rfl, rfl⟩ n5.now n5.rep
    have hC6 := (hg6.block C (some_lt hC5) (fun e => by have := Option.some.inj e; omega)).trans hC5
    have ua6 := ua5.trans u6
    have hCn6 : ¬ Ft N { g2 with a := { g2.a with jrn := s2.jrn } } s2 C := hCn4
    have hCa6 : ¬ AcIn B ({ g2 with a := { g2.a with jrn := s2.jrn } } : NdG).a C := hCa5
    have t6 : Hid (({ g2 with a := { g2.a with jrn := s2.jrn } } : NdG).x.T = g.x.T) := t4
    have hj6 : ({ g2 with a := { g2.a with jrn := s2.jrn } } : NdG).a.jrn = s2.jrn := rfl
    generalize ({ g2 with a := { g2.a with jrn := s2.jrn } } : NdG) = g6 at n6 ua6 hCn6 hCa6 t6 hj6
    clear ac6 hg6 u6 n5 ua5 hC5
    go_upto_region 6 with (fail)
    generalize World.setCell _ _ _ = W6 at n6 ua6 hC6 ⊢
    clear b0 b1 b2 b3 b4 b5 b6 f2
    obtain ⟨b0, b1, b2, b3, b4, b5, b6⟩ := n6.ac.blk.cell
    rw [hj6] at b2
    rw [n6.rep] at b3
    obtain ⟨af, kf, hf, _⟩ := row_form n6.ac.frm
    obtain ⟨ac, kc, hc, _⟩ := row_form n6.ac.cam
    obtain ⟨ad, kd, hdd, _⟩ := row_form n6.ac.drp
    rw [hf] at b4
    rw [hc] at b5
    rw [hdd] at b6
    have q0 : W6.cell? ⟨C, 0, none⟩ = some (.string ⟨#[]⟩) := cell_of_row _ _ 0 _ _ _ hC6
    have q1 : W6.cell? ⟨C, 1, none⟩ = some (.bool false) := cell_of_row _ _ 1 _ _ _ hC6
    have q2 : W6.cell? ⟨C, 2, none⟩ = some (.slice none 0 0) := cell_of_row _ _ 2 _ _ _ hC6
    have q3 : W6.cell? ⟨C, 3, none⟩ = some (.slice none 0 0) := cell_of_row _ _ 3 _ _ _ hC6
    have q4 : W6.cell? ⟨C, 4, none⟩ = some (.slice none 0 0) := cell_of_row _ _ 4 _ _ _ hC6
    have z0 := frozen_of_row W6 C 0 _ _ hC6
    have z1 := frozen_of_row W6 C 1 _ _ hC6
    have z2 := frozen_of_row W6 C 2 _ _ hC6
    have z3 := frozen_of_row W6 C 3 _ _ hC6
    have z4 := frozen_of_row W6 C 4 _ _ hC6
    have hgC := grown_cellOf (grown_cellOf (grown_cellOf (grown_cellOf (grown_cellOf (grown_self W6 (some C)) 0 (.string s2.jrn)) 1 (.bool s2.rep)) 2 (.slice af s2.frs.length kf)) 3 (.slice ac s2.cms.length kc)) 4 (.slice ad s2.drs.length kd)
    have hC7 : (((((W6.setCell ⟨C, 0, none⟩ (.string s2.jrn)).setCell ⟨C, 1, none⟩ (.bool s2.rep)).setCell ⟨C, 2, none⟩ (.slice af s2.frs.length kf)).setCell ⟨C, 3, none⟩ (.slice ac s2.cms.length kc)).setCell ⟨C, 4, none⟩ (.slice ad s2.drs.length kd)).heap[C]? = some (.cells #[.string s2.jrn, .bool s2.rep, .slice af s2.frs.length kf, .slice ac s2.cms.length kc, .slice ad s2.drs.length kd] 52) := by
      simp [World.setCell, Array.getElem?_modify, hC6]
    have n7 := n6.off (S := fun k => k = C) (Fx.grown hgC fun k e => by cases e; rfl) (by rintro k rfl; exact ⟨hCn6, hCa6⟩)
    have u7 := ua6.fresh hgC (by rw [hCC.out]; exact Nat.le_refl _)
    have hBCn : C ≠ B := by omega
    clear hgC n6 ua6
    go_wp2
    generalize World.setCell _ _ _ = W7 at hC7 n7 u7 ⊢
    have p0 : W7.cell? ⟨C, 0, none⟩ = some (.string s2.jrn) := cell_of_row _ _ 0 _ _ _ hC7
    have p1 : W7.cell? ⟨C, 1, none⟩ = some (.bool s2.rep) := cell_of_row _ _ 1 _ _ _ hC7
    have p2 : W7.cell? ⟨C, 2, none⟩ = some (.slice af s2.frs.length kf) := cell_of_row _ _ 2 _ _ _ hC7
    have p3 : W7.cell? ⟨C, 3, none⟩ = some (.slice ac s2.cms.length kc) := cell_of_row _ _ 3 _ _ _ hC7
    have p4 : W7.cell? ⟨C, 4, none⟩ = some (.slice ad s2.drs.length kd) := cell_of_row _ _ 4 _ _ _ hC7
    refine bodyPost_ret (v := .agg #[.string s2.jrn, .bool s2.rep, .slice af s2.frs.length kf, .slice ac s2.cms.length kc, .slice ad s2.drs.length kd]) (by simp [results, Tryz.results48, go_sem, p0, p1, p2, p3, p4]) rfl ⟨g6, ?_, n7, u7, t6⟩
    rw [hf, hc, hdd]
    rfl

end Go.Proofs.YtakaadcpaeiccabGreat

namespace Go.Proofs.YtakaadcpaeiccabGreat
open Go.RowKit Go.Maps

theorem QB.later {D : Nat} {q : Int × Int} {a b : World} (h : QB D q a) (hb : Below a.heap.size a b) : QB D q b := (hb.block _ (some_lt h)).trans h
/-- The cells that a walk reads with a question at hand. -/
@[reducible] def HQ (N B T C Q : Nat) (me seq sil now : Int) (p : Pkt) (W : World) : Prop :=
  HC N B T C me seq sil now p W ∧ W.cell? ⟨Q, 0, none⟩ = some (.int .u32 p.frm) ∧ W.cell? ⟨Q, 1, none⟩ = some (.int .u32 p.id)
theorem HQ.at {N B C Q T : Nat} {g : NdG} {s : St} {TL : List Hp.Tm} {p : Pkt} {W : World} {me seq sil now : Int} (n : Nd N B g s TL W) (h : PB p C W) (hQ : QB Q (p.frm, p.id) W) (t : g.x.T = T) (h1 : s.me = me) (h2 : s.seq = seq) (h3 : s.sil = sil) (h4 : s.now = now) : HQ N B T C Q me seq sil now p W := ⟨HC.at n h t h1 h2 h3 h4, hQ.cell⟩
theorem seenAdd_til {E : List Mm} {q : Int × Int} {now t : Int} (h : ∀ e ∈ E, e.til ≤ now + 1280) {e : Mm} (he : e ∈ seenAdd E q (now + 1280) t) : e.til ≤ now + 1280 := by
  have hp : ∀ e ∈ seenPut E q (now + 1280) t, e.til ≤ now + 1280 := by
    intro e he
    unfold seenPut at he
    rcases List.mem_append.1 he with he | he
    · exact h e (List.mem_filter.1 he).1
    · rw [List.mem_singleton] at he
      subst he
      exact Int.le_refl _
  unfold seenAdd at he
  split at he
  · exact hp e (List.mem_of_mem_tail he)
  · exact hp e he
end Go.Proofs.YtakaadcpaeiccabGreat

namespace Go.Proofs.YtakaadcpaeiccabGreat

/-! What holds of a node between two calls, and within one. -/
structure St.Inv (k : Int) (s : St) : Prop where
  me : U32 s.me
  seq : U32 s.seq
  now : 0 ≤ s.now
  mem : ∀ e ∈ s.mem, e.til ≤ s.now + 1280
  dom : s.Dom
  cnt : 0 ≤ s.cnt ∧ s.cnt ≤ 24
  tn : s.tn ≤ 10000 * k
  tl : 0 ≤ s.tl ∧ s.tl ≤ 10000 * k
  lk : s.lk = 0
  pcl : s.pc.length ≤ 5
  pcs : s.pc.Pairwise (· ≤ ·)
  pcn : ∀ t ∈ s.pc, t ≤ s.now
  qid : ∀ q ∈ s.Q, q.id ≤ s.tl
structure St.Mid (k : Int) (j : Nat) (s : St) : Prop where
  me : U32 s.me
  seq : U32 s.seq
  now : 0 ≤ s.now ∧ s.now ≤ 4611686018427387904
  mem : ∀ e ∈ s.mem, e.til ≤ s.now + 1280
  dom : s.Dom
  cnt : 0 ≤ s.cnt ∧ s.cnt ≤ 24 + 10 * j
  nws : s.nws.length ≤ 10 * j
  bd : RBd s.nws
  frs : s.frs.length ≤ 10 * j
  drs : s.drs.length ≤ 10 * j
  cms : s.cms.length ≤ 10 * j
  tn : s.tn ≤ 10000 * k + j
  tl : 0 ≤ s.tl ∧ s.tl ≤ 10000 * k + j
  pcl : s.pc.length ≤ 5
  pcs : s.pc.Pairwise (· ≤ ·)
  pcn : ∀ t ∈ s.pc, t ≤ s.now
  qid : ∀ q ∈ s.Q, q.id ≤ s.tl
theorem write_len (s : St) (hA : s.A.length ≤ 8) : s.write.nws.length ≤ s.nws.length + 9 ∧ 0 ≤ s.write.cnt - s.cnt ∧ s.write.cnt ≤ s.cnt + 9 := by
  have h := newsP_len s.seq s.own s.f s.A
  refine ⟨?_, ?_, ?_⟩
  · show (s.nws ++ _).length ≤ _
    rw [List.length_append]
    omega
  · show 0 ≤ s.cnt + _ - s.cnt
    omega
  · show s.cnt + _ ≤ s.cnt + 9
    omega
theorem mid_write {k : Int} {j : Nat} {s : St} (h : s.Mid k j) (hA : ∀ y ∈ s.A, y.Ok) (hl : s.A.length ≤ 8) : s.write.Mid k (j + 1) := by
  obtain ⟨w1, w2, w3⟩ := write_len s hl
  have c := h.cnt
  exact ⟨h.me, h.seq, h.now, h.mem, dom_write h.dom hA h.seq, by omega, by have := h.nws; omega, RBd_append h.bd (newsP_bd h.seq s.f hA), by have := h.frs; show s.frs.length ≤ _; omega, by have := h.drs; show s.drs.length ≤ _; omega, by have := h.cms; show s.cms.length ≤ _; omega, by have := h.tn; show s.tn ≤ _; omega, by have := h.tl; show 0 ≤ s.tl ∧ s.tl ≤ _; omega, h.pcl, h.pcs, h.pcn, h.qid⟩
theorem expL_ok {A : List Rt} (hA : ∀ y ∈ A, y.Ok) (now : Int) : ∀ y ∈ expL A now, y.Ok := by
  intro y hy
  obtain ⟨z, hz, rfl⟩ := List.mem_map.1 hy
  unfold expF
  split
  · exact endR_ok (hA z hz) (by simp [U32])
  · exact hA z hz
theorem mid_begin {k : Int} {s : St} (h : s.Inv k) (hA : ∀ y ∈ s.A, y.Ok) (hl : s.A.length ≤ 8) (now : Int) (hn : s.now ≤ now ∧ now ≤ 4611686018427387904) : (s.begin now).Mid k 1 := by
  have h0 : ({ s with now := now, A := expL s.A now, nws := [], frs := [], cms := [], drs := [], rep := false } : St).Mid k 0 :=
    ⟨h.me, h.seq, ⟨by have := h.now; dsimp only; omega, hn.2⟩, fun e he => by have := h.mem e he; dsimp only; omega, ⟨h.dom.mb, fun d hd => by
      obtain ⟨y, hy, rfl⟩ := h.dom.on d hd
      exact ⟨expF now y, List.mem_map.2 ⟨y, hy, rfl⟩, expF_dest now y⟩, h.dom.own⟩, by have := h.cnt; dsimp only; omega, Nat.le_refl _, fun _ h => (by cases h), Nat.le_refl _, Nat.le_refl _, Nat.le_refl _, by have := h.tn; dsimp only; omega, by have := h.tl; dsimp only; omega, h.pcl, h.pcs, fun t ht => by have := h.pcn t ht; dsimp only; omega, h.qid⟩
  exact mid_write h0 (expL_ok hA now) (by dsimp only [expL]; rw [List.length_map]; exact hl)
theorem mid_eff {k : Int} {j i : Nat} {s s' : St} (h : s.Mid k j) (e : Eff i s s') : s'.Mid k (j + i) := by
  refine ⟨by rw [e.me]; exact h.me, e.seq h.seq, by rw [e.now]; exact h.now, e.mem h.mem, ⟨by rw [e.f]; exact h.dom.mb, fun d hd => ?_, by rw [e.own]; exact h.dom.own⟩, by rw [e.cnt]; have := h.cnt; omega, by rw [e.nws]; have := h.nws; omega, by rw [e.nws]; exact h.bd, by have := e.frs; have := h.frs; omega, by have := e.drs; have := h.drs; omega, by have := e.cms; have := h.cms; omega, by have := e.tn; have := h.tn; omega, by rw [e.tl]; have := h.tl; omega, by rw [e.pc]; exact h.pcl, by rw [e.pc]; exact h.pcs, by rw [e.pc, e.now]; exact h.pcn, fun q hq => by rw [e.tl]; exact h.qid q (e.qs q hq)⟩
  rw [e.f] at hd
  obtain ⟨y, hy, rfl⟩ := h.dom.on d hd
  obtain ⟨z, hz, e⟩ := e.sub y hy
  exact ⟨z, hz, e⟩
structure FinS (s s' : St) : Prop where
  me : s'.me = s.me
  seq : s'.seq = s.seq
  sil : s'.sil = s.sil
  lreq : s'.lreq = s.lreq
  ldat : s'.ldat = s.ldat
  A : s'.A = s.A
  mem : s'.mem = s.mem
  tn : s'.tn = s.tn
  Q : s'.Q = s.Q
  tl : s'.tl = s.tl
  pc : s'.pc = s.pc
  now : s'.now = s.now
  frs : s'.frs = s.frs
  cms : s'.cms = s.cms
  drs : s'.drs = s.drs
  lk : s'.lk = s.lk
theorem finish_same (s : St) : FinS s s.finish := by
  unfold St.finish
  split <;> exact ⟨rfl, rfl, rfl, rfl, rfl, rfl, rfl, rfl, rfl, rfl, rfl, rfl, rfl, rfl, rfl, rfl⟩
theorem cmp_len (s : St) : s.cmp.length = s.A.length + 1 := by
  simp only [St.cmp, ownP, othP, List.length_append, List.length_map, List.length_cons, List.length_nil]
  omega
theorem inv_finish {k : Int} {j : Nat} {s : St} (h : s.Mid k j) (hj : j ≤ 9000) (hlk : s.lk = 0) (hA : ∀ y ∈ s.A, y.Ok) (hl : s.A.length ≤ 8) : s.finish.Inv (k + 1) := by
  have e := finish_same s
  have hw := mid_write h hA hl
  have hdm : s.finish.Dom := by
    have := hw.dom
    unfold St.finish
    split
    · exact ⟨this.mb, this.on, this.own⟩
    · exact this
  have hcn : 0 ≤ s.finish.cnt ∧ s.finish.cnt ≤ 24 := by
    unfold St.finish
    split
    · have := cmp_len s.write
      have h8 : s.write.A.length ≤ 8 := hl
      dsimp only
      omega
    · have := hw.cnt
      omega
  exact ⟨by rw [e.me]; exact h.me, by rw [e.seq]; exact h.seq, by rw [e.now]; exact h.now.1, by rw [e.mem, e.now]; exact h.mem, hdm, hcn, by rw [e.tn]; have := h.tn; omega, by rw [e.tl]; have := h.tl; omega, by rw [e.lk]; exact hlk, by rw [e.pc]; exact h.pcl, by rw [e.pc]; exact h.pcs, by rw [e.pc, e.now]; exact h.pcn, by rw [e.Q, e.tl]; exact h.qid⟩

/-- The timers are those of the searches. -/
def TmOk (s : St) (TL : List Hp.Tm) : Prop := TL.Perm (s.Q.map tmOf)
end Go.Proofs.YtakaadcpaeiccabGreat

namespace Go.Proofs.YtakaadcpaeiccabGreat

/-- The numbers under which this program holds the library's lock. -/
abbrev muLink : Go.Conc.Locks.MuLink := { lock := 49, unlock := 50, ilock := 74, iunlock := 75, lockSlow := 109, unlockSlow := 112, disable := 105, enable := 107, acquire := 108, relMerge := 110, cas32 := 106, add32 := 111, tMutex := 127, tIMutex := 125, tPMutex := 168, tPIMutex := 215, tPI32 := 217, tUP := 219, tNoCopy := 123, tU32 := 34 }
theorem muLib : Go.Conc.Locks.MuLib Tryz.prog muLink :=
  ⟨Tryz.func49, Tryz.func50, Tryz.func74, Tryz.func75, Tryz.func105, Tryz.func107, Tryz.func108, Tryz.func110, Tryz.func106, Tryz.func111, Tryz.underlying125, Tryz.runUnderlying125, Tryz.sizeOf125, Tryz.isAgg125, Tryz.zeroValue125, Tryz.underlying127, Tryz.runUnderlying127, Tryz.sizeOf127, Tryz.isAgg127, Tryz.zeroValue127, Tryz.underlying168, Tryz.runUnderlying168, Tryz.sizeOf168, Tryz.isAgg168, Tryz.zeroValue168, Tryz.underlying215, Tryz.runUnderlying215, Tryz.sizeOf215, Tryz.isAgg215, Tryz.zeroValue215, Tryz.underlying217, Tryz.runUnderlying217, Tryz.sizeOf217, Tryz.isAgg217, Tryz.zeroValue217, Tryz.underlying219, Tryz.runUnderlying219, Tryz.sizeOf219, Tryz.isAgg219, Tryz.zeroValue219, Tryz.underlying123, Tryz.runUnderlying123, Tryz.sizeOf123, Tryz.isAgg123, Tryz.zeroValue123, Tryz.underlying21, Tryz.runUnderlying21, Tryz.sizeOf21, Tryz.isAgg21, Tryz.zeroValue21, (by kernel_rfl)⟩
end Go.Proofs.YtakaadcpaeiccabGreat

namespace Go.Proofs.YtakaadcpaeiccabGreat
open Go.RowKit Go.Maps

/-! What lies round each call of a node: the lock, the beginning, the end. -/
/-- Bytes that lie in a block of bytes. -/
def VB (W : World) (v : Value) (xs : List Int) : Prop := RestV W v xs ∧ ∀ b o n c, v = .slice (some ⟨b, o, none⟩) n c → ∃ cs mk, W.heap[b]? = some (.cells cs 5 mk)
theorem VB.at {W W' : World} {v : Value} {xs : List Int} (h : VB W v xs) (he : ∀ b o n c, v = .slice (some ⟨b, o, none⟩) n c → W'.heap[b]? = W.heap[b]?) : VB W' v xs := by
  obtain ⟨⟨hb, h1⟩, h2⟩ := h
  refine ⟨⟨hb, ?_⟩, fun b o n c hv => ?_⟩
  · rcases h1 with h1 | ⟨b, o, c, rfl, k1, k2, k3⟩
    · exact .inl h1
    · refine .inr ⟨b, o, c, rfl, k1, k2, fun j x hj => ?_⟩
      have h3 := k3 j x hj
      unfold World.cell? at h3 ⊢
      rw [show W'.heap[(⟨b, o + j, none⟩ : Addr).block]? = W.heap[b]? from he b o _ c rfl]
      exact h3
  · rw [he b o n c hv]
    exact h2 b o n c hv
theorem VB.later {W W' : World} {v : Value} {xs : List Int} (h : VB W v xs) (hb : Below W.heap.size W W') : VB W' v xs :=
  h.at fun b o n c hv => by
    obtain ⟨cs, mk, h⟩ := h.2 b o n c hv
    exact hb.block b (Array.getElem?_eq_some_iff.1 h).1
/-- The object is of bytes. -/
theorem Nn.not8 {N : Nat} {g : NdG} {s : St} {TL : List Hp.Tm} {W : World} (n : Nn N g s TL W) {b : Nat} {cs : Array Value} {mk : Nat × Nat} (hc : W.heap[b]? = some (.cells cs 5 mk)) : ¬ Ft N g s b := by
  rintro ((rfl | rfl | hT) | hk)
  · rw [show W.heap[b]? = _ from n.cr.nd] at hc
    cases hc
  · obtain ⟨es, cl, hm⟩ := n.cr.mo.obj
    rw [hm] at hc
    cases hc
  · refine n.cr.tb.not (fun e => ?_) hc ⟨fun c e => (by cases e), fun c e => (by cases e), fun c e => (by cases e)⟩ hT
    obtain ⟨D, ⟨es, cl, hm, _⟩, _⟩ := n.cr.tb.map
    rw [← e, hc] at hm
    cases hm
  · obtain ⟨o, ho, ⟨_, es, cl, rfl⟩ | ⟨h, _⟩⟩ := n.rs.kind hk
    · rw [ho] at hc
      cases hc
    · rw [ho] at hc
      cases hc
      exact h ⟨fun c e => (by cases e), fun c e => (by cases e), fun c e => (by cases e), fun c e => (by cases e), fun c e => (by cases e)⟩
theorem Nn.vb {N : Nat} {g : NdG} {s : St} {TL : List Hp.Tm} {W W' : World} (n : Nn N g s TL W) {v : Value} {xs : List Int} (hr : VB W v xs) (hf : Fx (Ft N g s) W W') : VB W' v xs := hr.at fun b o m c hv => by
  obtain ⟨cs, mk, hc⟩ := hr.2 b o m c hv
  exact hf.block b (some_lt hc) (n.not8 hc)
/-- The lock is taken, or given back. -/
theorem Nn.setLk {N : Nat} {g : NdG} {s : St} {TL : List Hp.Tm} {W : World} (n : Nn N g s TL W) (v : Int) : Nn N { g with x := { g.x with lk := v } } { s with lk := v } TL (W.setCell ⟨N, 0, none⟩ (.int .i32 v)) ∧ W.grownBy (W.setCell ⟨N, 0, none⟩ (.int .i32 v)) (some N) := by
  have hg : W.grownBy (W.setCell ⟨N, 0, none⟩ (.int .i32 v)) (some N) := grown_cellOf (grown_self _ (some N)) 0 _
  obtain ⟨e1, e2, e3, e4, e5, e6, e7, e8, e9⟩ := n.eq
  have hrs := n.rs.kept (W' := W.setCell ⟨N, 0, none⟩ (.int .i32 v)) fun k hk => hg.block k (n.rs.lt hk) fun e => n.apart hk (.inl (Option.some.inj e))
  refine ⟨⟨⟨n.cr.nd.setLk v, n.cr.mo.kept hg (by simpa using Ne.symm (nd_mo n.cr.nd n.cr.mo)), n.cr.tb.keptFx (S := fun k => k = N) (Fx.grown hg fun k e => by cases e; rfl) ?_, n.cr.ne⟩, ⟨e1, e2, e3, e4, e5, e6, e7, e8, rfl⟩, ⟨hrs.sn, hrs.sr, hrs.tm, hrs.hpo, hrs.pm, hrs.pc⟩, n.nod, n.siz⟩, hg⟩
  rintro k rfl _
  refine ⟨fun e => ?_, _, n.cr.nd, nd_offT g.x⟩
  obtain ⟨D, ⟨es, cl, hm, _⟩, _⟩ := n.cr.tb.map
  rw [← e, show W.heap[k]? = _ from n.cr.nd] at hm
  cases hm
theorem Ft.lk {N : Nat} {g : NdG} {s : St} {v : Int} {k : Nat} : Ft N { g with x := { g.x with lk := v } } { s with lk := v } k ↔ Ft N g s k := Iff.rfl
theorem Nn.qlen {N : Nat} {g : NdG} {s : St} {TL : List Hp.Tm} {W : World} (n : Nn N g s TL W) (hT : TmOk s TL) : TL.length ≤ 5000 := by
  rw [hT.length_eq, List.length_map]
  exact n.rs.sr.len
/-- The timers' ids differ. -/
theorem pi_ids {h : List Hp.Tm} {f : Int → Option Nat} (p : PI h f) : h.Pairwise fun a b => a.2.1 ≠ b.2.1 := by
  rw [List.pairwise_iff_getElem]
  intro i j hi hj hij e
  have h1 := p.1 i _ (List.getElem?_eq_getElem hi)
  have h2 := p.1 j _ (List.getElem?_eq_getElem hj)
  rw [e, h2] at h1
  have := Option.some.inj h1
  omega
theorem Nn.ids {N : Nat} {g : NdG} {s : St} {TL : List Hp.Tm} {W : World} (n : Nn N g s TL W) : TL.Pairwise fun a b => a.2.1 ≠ b.2.1 := by
  obtain ⟨f, _, p⟩ := n.rs.tm.map
  exact n.rs.pm.pairwise (pi_ids p) fun h => Ne.symm h
def St.locked (s : St) : St := { s with lk := 1 }
def St.freed (s : St) : St := { s with lk := 0 }
def St.snd (s : St) (now d : Int) (t : ByteArray) : St := (s.locked.sends now d t).freed
def St.tck (s : St) (now : Int) : St := (s.locked.tick now).freed
/-- What a call of a node leaves. -/
def CallP (N : Nat) (g : NdG) (s s' : St) (w : World) (o : Value) (w' : World) : Prop :=
  ∃ g' TL' frm cam drp, o = outV s'.jrn s'.rep frm cam drp ∧ Nn N g' s' TL' w' ∧ TmOk s' TL' ∧ w'.ownsRow w.heap.size 77 2 frm s'.frs.length (FrC s'.frs) ∧ w'.ownsRow w.heap.size 56 2 cam s'.cms.length (FrC s'.cms) ∧ w'.ownsRow w.heap.size 195 1 drp s'.drs.length (DrC s'.drs) ∧ Fx (Ft N g s) w w' ∧ ∀ k, Ft N g' s' k → Ft N g s k ∨ (w.heap.size ≤ k ∧ k < w'.heap.size)
theorem Nn.lkd {N : Nat} {g : NdG} {s : St} {TL : List Hp.Tm} {W : World} (n : Nn N g s TL W) : W.cell? ⟨N, 0, none⟩ = some (.int .i32 s.lk) ∧ W.frozen? ⟨N, 0, none⟩ = false := by
  have h := n.cr.nd.cell.1
  rw [n.eq.lk] at h
  exact ⟨h, n.cr.nd.free 0⟩
theorem freed_finish (s : St) : s.freed.finish = s.finish.freed := by
  unfold St.finish
  have e : s.freed.write = s.write.freed := rfl
  rw [e]
  show (if s.write.cnt > 24 then _ else _) = _
  split <;> rfl
theorem inv_freed {k : Int} {j : Nat} {s : St} (h : s.Mid k j) (hj : j ≤ 9000) (hA : ∀ y ∈ s.A, y.Ok) (hl : s.A.length ≤ 8) : s.finish.freed.Inv (k + 1) := by
  have h' : s.freed.Mid k j := ⟨h.me, h.seq, h.now, h.mem, ⟨h.dom.mb, h.dom.on, h.dom.own⟩, h.cnt, h.nws, h.bd, h.frs, h.drs, h.cms, h.tn, h.tl, h.pcl, h.pcs, h.pcn, h.qid⟩
  rw [← freed_finish]
  exact inv_finish h' hj rfl hA hl
theorem mid_lock {k : Int} {s : St} (h : s.Inv k) : s.locked.me = s.me ∧ ∀ now, s.now ≤ now ∧ now ≤ 4611686018427387904 → (∀ y ∈ s.A, y.Ok) → s.A.length ≤ 8 → (s.locked.begin now).Mid k 1 := by
  refine ⟨rfl, fun now hn hA hl => ?_⟩
  have h1 := mid_begin h hA hl now hn
  exact ⟨h1.me, h1.seq, h1.now, h1.mem, ⟨h1.dom.mb, h1.dom.on, h1.dom.own⟩, h1.cnt, h1.nws, h1.bd, h1.frs, h1.drs, h1.cms, h1.tn, h1.tl, h1.pcl, h1.pcs, h1.pcn, h1.qid⟩
end Go.Proofs.YtakaadcpaeiccabGreat
