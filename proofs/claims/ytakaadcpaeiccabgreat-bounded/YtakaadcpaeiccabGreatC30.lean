import Derived.Test.YtakaadcpaeiccabGreatC29
namespace Go.Proofs.YtakaadcpaeiccabGreat
open Go.RowKit Go.Maps

theorem cell_later {W W' : World} {b i : Nat} {v : Value} (h : W.cell? ⟨b, i, none⟩ = some v) (hb : Below W.heap.size W W') (hl : b < W.heap.size) : W'.cell? ⟨b, i, none⟩ = some v := (hb.cell (p := ⟨b, i, none⟩) hl).trans h
/-- The cells that the hearing of a packet reads. -/
@[reducible] def HC (N B T C : Nat) (me seq sil now : Int) (p : Pkt) (W : World) : Prop :=
  (W.cell? ⟨N, 2, none⟩ = some (.int .u32 me) ∧ W.cell? ⟨N, 3, none⟩ = some (.int .u32 seq) ∧ W.cell? ⟨N, 4, none⟩ = some (.int .u64 sil) ∧ W.cell? ⟨N, 7, none⟩ = some (.pointer (some ⟨T, 0, none⟩)) ∧ W.cell? ⟨B, 0, none⟩ = some (.int .u64 now)) ∧
  (W.cell? ⟨C, 0, none⟩ = some (.int .i64 p.ttl) ∧ W.cell? ⟨C, 1, none⟩ = some (.int .i64 p.kind) ∧ W.cell? ⟨C, 2, none⟩ = some (.int .i64 p.hops) ∧ W.cell? ⟨C, 3, none⟩ = some (.bool p.unk) ∧ W.cell? ⟨C, 4, none⟩ = some (.int .u32 p.id) ∧ W.cell? ⟨C, 5, none⟩ = some (.int .u32 p.dest) ∧ W.cell? ⟨C, 6, none⟩ = some (.int .u32 p.dseq) ∧ W.cell? ⟨C, 7, none⟩ = some (.int .u32 p.frm) ∧ W.cell? ⟨C, 8, none⟩ = some (.int .u32 p.fseq) ∧ W.cell? ⟨C, 9, none⟩ = some (.int .u32 p.life) ∧ W.cell? ⟨C, 10, none⟩ = some (.slice p.la p.ln p.lc) ∧ W.cell? ⟨C, 11, none⟩ = some (.string p.pay))
@[reducible] def HB (N B T C : Nat) (me seq sil now : Int) (p : Pkt) (W0 W : World) : Prop := HC N B T C me seq sil now p W ∧ Below W0.heap.size W0 W
theorem HC.of {N B C : Nat} {g : NdG} {s : St} {TL : List Hp.Tm} {p : Pkt} {W : World} (n : Nd N B g s TL W) (h : PB p C W) : HC N B g.x.T C s.me s.seq s.sil s.now p W := ⟨n.cell, h.cell⟩
theorem HB.drew {N B T C : Nat} {me seq sil now : Int} {p : Pkt} {W0 W : World} (h : HB N B T C me seq sil now p W0 W) : HB N B T C me seq sil now p W0 W.drew := ⟨h.1, h.2.drew⟩
theorem HB.mk' {N B C : Nat} {g : NdG} {s : St} {TL : List Hp.Tm} {p : Pkt} {W0 W : World} (n : Nd N B g s TL W0) (h : PB p C W0) (hb : Below W0.heap.size W0 W) : HB N B g.x.T C s.me s.seq s.sil s.now p W0 W := ⟨.of (n.later hb) (h.below hb), hb⟩
theorem HB.alloc {N B T C : Nat} {me seq sil now : Int} {p : Pkt} {W0 W : World} (hk : Hid (∀ W5, Below W0.heap.size W0 W5 → HB N B T C me seq sil now p W0 W5)) (h : HB N B T C me seq sil now p W0 W) (o : Obj) : HB N B T C me seq sil now p W0 (W.alloc o) := hk.out _ (h.2.alloc h.2.size _)
/-- A block of the call's own, which is of none of the kinds of a node. -/
theorem Up.box {B C : Nat} {F F' : Nat → Prop} {p : Pkt} {a b : World} (u : Up B F F' a b) (h : PB p C a) (hn : ¬ F C) : PB p C b := u.block C _ h hn (.inl (pk_offA p))
theorem Nd.new {N B : Nat} {g : NdG} {s : St} {TL : List Hp.Tm} {W : World} (n : Nd N B g s TL W) {k : Nat} (hk : W.heap.size ≤ k) : ¬ Ft N g s k := fun h => by have := n.nn.lt h; omega

theorem PB.setTK {C : Nat} {p : Pkt} {W : World} (h : PB p C W) (t k : Int) : PB { p with ttl := t, kind := k } C ((W.setCell ⟨C, 0, none⟩ (.int .i64 t)).setCell ⟨C, 1, none⟩ (.int .i64 k)) := by
  unfold PB at h ⊢
  simp [World.setCell, Array.getElem?_modify, h]
theorem below_set7 {n D : Nat} {a w : World} (h : Below n a w) (hD : n ≤ D) (v0 v1 v2 v3 v4 v5 v6 : Value) : Below n a (((((((w.setCell ⟨D, 0, none⟩ v0).setCell ⟨D, 1, none⟩ v1).setCell ⟨D, 2, none⟩ v2).setCell ⟨D, 3, none⟩ v3).setCell ⟨D, 4, none⟩ v4).setCell ⟨D, 5, none⟩ v5).setCell ⟨D, 6, none⟩ v6) :=
  ((((((h.setCell (p := ⟨D, 0, none⟩) hD _).setCell (p := ⟨D, 1, none⟩) hD _).setCell (p := ⟨D, 2, none⟩) hD _).setCell (p := ⟨D, 3, none⟩) hD _).setCell (p := ⟨D, 4, none⟩) hD _).setCell (p := ⟨D, 5, none⟩) hD _).setCell (p := ⟨D, 6, none⟩) hD _
theorem LnB.set7 {D : Nat} {x y : Rt} {u v : Value} {w : World} (h : LnB D x u w) : LnB D y v (((((((w.setCell ⟨D, 0, none⟩ (.int .u32 y.dest)).setCell ⟨D, 1, none⟩ (.int .u32 y.seq)).setCell ⟨D, 2, none⟩ (.int .i64 y.hops)).setCell ⟨D, 3, none⟩ (.int .u32 y.next)).setCell ⟨D, 4, none⟩ (.bool y.valid)).setCell ⟨D, 5, none⟩ (.int .u64 y.exp)).setCell ⟨D, 6, none⟩ v) := by
  unfold LnB at h ⊢
  simp [World.setCell, Array.getElem?_modify, h]
/-- What 'Find' answers, of a node within a call, whatever was made beside it. -/
theorem N_findP {N B : Nat} {g : NdG} {s : St} {TL : List Hp.Tm} {W1 : World} (n0 : Nd N B g s TL W1) (d now : Int) (hd : U32 d) {y : Rt} {fd : Bool} (hr : findL s.A d now = (y, fd)) :
    ∀ W5, Below W1.heap.size W1 W5 → Calls Tryz.prog 79 #[.pointer (some ⟨g.x.T, 0, none⟩), .int .u32 d, .int .u64 now] W5 fun e w' => ∃ ao c, e = .returned (.tuple #[rtV y (.slice ao y.bef.length c), .bool fd]) ∧ Below W1.heap.size W1 w' ∧ ∀ x u, LnB W1.heap.size x u W5 → LnB W1.heap.size x u w' := by
  intro W5 h5
  have h := N_find (n0.later h5) d now hd
  rw [hr] at h
  refine h.mono ?_
  rintro e w' ⟨ao, c, rfl, hb⟩
  exact ⟨ao, c, rfl, h5.trans (hb.mono h5.size), fun x u h => h.later hb⟩
theorem zero_new (W : World) : LnB W.heap.size zeroR (.slice none 0 0) (W.alloc (.cells #[.int .u32 0, .int .u32 0, .int .i64 0, .int .u32 0, .bool false, .int .u64 0, .slice none 0 0] 38)).drew := heap_alloc_new W _
/-- What lies in memory behind 'Find'. -/
def FoundP (y : Rt) (fd : Bool) (W1 : World) (pv fv : Value) (W : World) : Prop := ∃ D ao c, pv = .pointer (some ⟨D, 0, none⟩) ∧ fv = .bool fd ∧ LnB D y (.slice ao y.bef.length c) W ∧ W1.heap.size ≤ D ∧ Below W1.heap.size W1 W

theorem found_alloc {y : Rt} {fd : Bool} {W1 w2 : World} {ao : Option Addr} {c : Nat} (hb : Below W1.heap.size W1 w2) : FoundP y fd W1 (.pointer (some ⟨w2.heap.size, 0, none⟩)) (.bool fd) (w2.alloc (.cells #[.int .u32 y.dest, .int .u32 y.seq, .int .i64 y.hops, .int .u32 y.next, .bool y.valid, .int .u64 y.exp, .slice ao y.bef.length c] 38)) :=
  ⟨_, ao, c, rfl, rfl, heap_alloc_new _ _, hb.size, hb.alloc hb.size _⟩
theorem found_set {y x : Rt} {u : Value} {fd : Bool} {W1 w2 : World} {ao : Option Addr} {c : Nat} (hb : Below W1.heap.size W1 w2) (hD : Hid (LnB W1.heap.size x u w2)) : FoundP y fd W1 (.pointer (some ⟨W1.heap.size, 0, none⟩)) (.bool fd) (((((((w2.setCell ⟨W1.heap.size, 0, none⟩ (.int .u32 y.dest)).setCell ⟨W1.heap.size, 1, none⟩ (.int .u32 y.seq)).setCell ⟨W1.heap.size, 2, none⟩ (.int .i64 y.hops)).setCell ⟨W1.heap.size, 3, none⟩ (.int .u32 y.next)).setCell ⟨W1.heap.size, 4, none⟩ (.bool y.valid)).setCell ⟨W1.heap.size, 5, none⟩ (.int .u64 y.exp)).setCell ⟨W1.heap.size, 6, none⟩ (.slice ao y.bef.length c)) :=
  ⟨_, ao, c, rfl, rfl, hD.out.set7, Nat.le_refl _, below_set7 hb (Nat.le_refl _) _ _ _ _ _ _ _⟩
theorem HB.kAlloc {N B T C : Nat} {me seq sil now : Int} {p : Pkt} {W0 W : World} {o : Obj} (hk : Hid (∀ W5, Below W0.heap.size W0 W5 → HB N B T C me seq sil now p W0 W5)) (h : Below W0.heap.size W0 W) : HB N B T C me seq sil now p W0 (W.alloc o) := hk.out _ (h.alloc h.size _)
theorem HB.kAllocDrew {N B T C : Nat} {me seq sil now : Int} {p : Pkt} {W0 : World} {o : Obj} (hk : Hid (∀ W5, Below W0.heap.size W0 W5 → HB N B T C me seq sil now p W0 W5)) : HB N B T C me seq sil now p W0 (W0.alloc o).drew := hk.out _ ((Below.refl _ _).alloc (Nat.le_refl _) _).drew
theorem HB.kSet7 {N B T C : Nat} {me seq sil now : Int} {p : Pkt} {W0 W : World} {v0 v1 v2 v3 v4 v5 v6 : Value} (hk : Hid (∀ W5, Below W0.heap.size W0 W5 → HB N B T C me seq sil now p W0 W5)) (h : Below W0.heap.size W0 W) : HB N B T C me seq sil now p W0 (((((((W.setCell ⟨W0.heap.size, 0, none⟩ v0).setCell ⟨W0.heap.size, 1, none⟩ v1).setCell ⟨W0.heap.size, 2, none⟩ v2).setCell ⟨W0.heap.size, 3, none⟩ v3).setCell ⟨W0.heap.size, 4, none⟩ v4).setCell ⟨W0.heap.size, 5, none⟩ v5).setCell ⟨W0.heap.size, 6, none⟩ v6) := hk.out _ (below_set7 h (Nat.le_refl _) _ _ _ _ _ _ _)
set_option maxRecDepth 100000 in
set_option maxHeartbeats 4000000 in
theorem N_answer {N B : Nat} {g : NdG} {s : St} {TL : List Hp.Tm} {w : World} (n : Nd N B g s TL w) (p : Pkt) (hp : p.Wf) (hL : HoldsL w p []) (hfl : s.frs.length ≤ 1000000) (hdl : s.drs.length ≤ 1000000) :
    Calls Tryz.prog 181 #[.pointer (some ⟨N, 0, none⟩), .pointer (some ⟨B, 0, none⟩), p.val] w fun e w' => e = .returned (.tuple #[]) ∧ NdP N B g s (s.answer p) TL w w' := by
  have hb0 : Below w.heap.size w (w.alloc p.box) := (Below.refl _ _).alloc (Nat.le_refl _) _
  have hP0 := PB.new p w
  have n0 := n.later hb0
  have hfr : U32 p.frm := ⟨hp.frm0, by have := hp.frm1; omega⟩
  obtain ⟨s2, hans⟩ : ∃ s2, s.answer p = s2 := ⟨_, rfl⟩
  rw [hans]
  replace hans := (show Hid _ from hans)
  dsimp only [Pkt.box] at hb0 n0
  unfold PB at hP0
  dsimp only [Pkt.box] at hP0
  go_enter Tryz.func181, Tryz.ntmps181
  go_upto_region 1 with (fail)
  generalize World.alloc _ _ = W1 at hb0 hP0 n0 ⊢
  have hC1 := (show Hid _ from HB.mk' n0 hP0 (Below.refl _ _))
  obtain ⟨⟨y, fd⟩, hr⟩ : ∃ r, findL s.A p.frm s.now = r := ⟨_, rfl⟩
  have HF := (show Hid _ from N_findP n0 p.frm s.now hfr hr)
  generalize hCC : w.heap.size = C at hP0 hC1 ⊢
  replace hCC := (show Hid _ from hCC)
  go_cut [6, 7] from 8 to 21 (FoundP y fd W1)
  case first =>
    have hS : HB N B g.x.T C s.me s.seq s.sil s.now p W1 W1.drew := HB.drew hC1.out
    have hkB := (show Hid _ from fun W5 h5 => HB.mk' (W := W5) n0 hP0 h5)
    go_region_held3 (HB N B g.x.T C s.me s.seq s.sil s.now p W1) (first | with_reducible exact hS | with_reducible assumption | (with_reducible apply HB.kSet7 hkB; assumption) | (with_reducible apply HB.kAlloc hkB; assumption) | (with_reducible apply HB.kAllocDrew hkB) | (with_reducible apply hkB.out; assumption)) ((go_at_call 79; refine (HF.out _ (And.right (by assumption))).mono ?_; rintro e w2 ⟨ao, c, rfl, hb2, hpr⟩; try ((with_reducible have hD := hpr zeroR (.slice none 0 0) (zero_new W1)); obtain ⟨d0, d1, d2, d3, d4, d5, d6⟩ := hD.cell; have q0 := hD.free 0; have q1 := hD.free 1; have q2 := hD.free 2; have q3 := hD.free 3; have q4 := hD.free 4; have q5 := hD.free 5; have q6 := hD.free 6; have hD' : Hid (LnB W1.heap.size zeroR (.slice none 0 0) w2) := hD; clear hD); clear hpr))
    all_goals
      go_wp2_with fail
      go_meet
      first | with_reducible exact found_alloc hb2 | with_reducible exact found_set hb2 hD'
  case rest =>
    obtain ⟨D, ao, c, rfl, rfl, hD, hDl, hb2⟩ := hcut
    have n2 := n0.later hb2
    have hP2 := PB.below hP0 hb2
    have hz := hb0.size
    have hCD : C ≠ D := by have := PB.lt hP0; omega
    clear hC1 hP0 n0 HF
    have hs2 := hans.out
    unfold St.answer at hs2
    rw [hr] at hs2
    dsimp only at hs2
    obtain ⟨d0, d1, d2, d3, d4, d5, d6⟩ := hD.cell
    obtain ⟨p0, p1, p2, p3, p4, p5, p6, p7, p8, p9, p10, p11⟩ := PB.cell hP2
    cases fd
    · rw [if_neg (by simp)] at hs2
      subst hs2
      have HD := (show Hid _ from N_drop n2 3 hdl)
      clear d0 d1 d2 d3 d4 d5 d6 p0 p1 p2 p3 p4 p5 p6 p7 p8 p9 p10 p11 hans
      go_wp2_with fail
      refine Calls.mono HD.out ?_
      rintro e w3 ⟨rfl, hN⟩
      go_wp2
      go_returns
      exact ⟨rfl, (hN.pre hb2).pre hb0⟩
    · rw [if_pos rfl] at hs2
      subst hs2
      have q0 := PB.free hP2 0
      have q1 := PB.free hP2 1
      have hb3 : Below w.heap.size w ((wc.setCell ⟨C, 0, none⟩ (.int .i64 8)).setCell ⟨C, 1, none⟩ (.int .i64 2)) := ((hb0.trans (hb2.mono hb0.size)).setCell (p := ⟨C, 0, none⟩) (by rw [hCC.out]; exact Nat.le_refl _) _).setCell (p := ⟨C, 1, none⟩) (by rw [hCC.out]; exact Nat.le_refl _) _
      have hP3 := hP2.setTK 8 2
      have n3 := n.later hb3
      have HS : Hid (Calls Tryz.prog 80 #[.pointer (some ⟨B, 0, none⟩), .int .u32 y.next, ({ p with ttl := 8, kind := 2 } : Pkt).val] ((wc.setCell ⟨C, 0, none⟩ (.int .i64 8)).setCell ⟨C, 1, none⟩ (.int .i64 2)) fun e w' => e = .returned (.tuple #[]) ∧ NdP N B g s (s.send y.next { p with ttl := 8, kind := 2 } []) TL _ w') :=
        N_send n3 y.next { p with ttl := 8, kind := 2 } ⟨by dsimp only; omega, by dsimp only; omega, by dsimp only; omega, by dsimp only; omega, hp.hops0, hp.hops1, hp.id0, hp.id1, hp.dest0, hp.dest1, hp.dseq0, hp.dseq1, hp.frm0, hp.frm1, hp.fseq0, hp.fseq1, hp.life0, hp.life1, hp.ln1, hp.pay1⟩ [] (hL.below hb3) hfl
      have hD3 : LnB D y (.slice ao y.bef.length c) ((wc.setCell ⟨C, 0, none⟩ (.int .i64 8)).setCell ⟨C, 1, none⟩ (.int .i64 2)) := (Below.heap_setCell _ _ _ _ (Ne.symm hCD)).trans ((Below.heap_setCell _ _ _ _ (Ne.symm hCD)).trans hD)
      clear n2 hans hCC
      dsimp only [Pkt.val] at HS
      go_upto_region 5 with (fail)
      generalize World.setCell _ _ _ = W3 at hb3 hP3 n3 HS hD3 ⊢
      clear d0 d1 d2 d3 d4 d5 d6 p0 p1 p2 p3 p4 p5 p6 p7 p8 p9 p10 p11 q0 q1
      obtain ⟨d0, d1, d2, d3, d4, d5, d6⟩ := hD3.cell
      obtain ⟨p0, p1, p2, p3, p4, p5, p6, p7, p8, p9, p10, p11⟩ := PB.cell hP3
      dsimp only at p0 p1 p2 p3 p4 p5 p6 p7 p8 p9 p10 p11
      go_wp2_with fail
      refine Calls.mono HS.out ?_
      rintro e w3 ⟨rfl, hN⟩
      go_wp2
      go_returns
      exact ⟨rfl, hN.pre hb3⟩
end Go.Proofs.YtakaadcpaeiccabGreat

namespace Go.Proofs.YtakaadcpaeiccabGreat
open Go.RowKit Go.Maps

theorem PB.setTtl {C : Nat} {p : Pkt} {W : World} (h : PB p C W) (t : Int) : PB { p with ttl := t } C (W.setCell ⟨C, 0, none⟩ (.int .i64 t)) := by
  unfold PB at h ⊢
  simp [World.setCell, Array.getElem?_modify, h]
theorem PB.setHops {C : Nat} {p : Pkt} {W : World} (h : PB p C W) (t : Int) : PB { p with hops := t } C (W.setCell ⟨C, 2, none⟩ (.int .i64 t)) := by
  unfold PB at h ⊢
  simp [World.setCell, Array.getElem?_modify, h]
theorem PB.setDU {C : Nat} {p : Pkt} {W : World} (h : PB p C W) (t : Int) (b : Bool) : PB { p with dseq := t, unk := b } C ((W.setCell ⟨C, 6, none⟩ (.int .u32 t)).setCell ⟨C, 3, none⟩ (.bool b)) := by
  unfold PB at h ⊢
  simp [World.setCell, Array.getElem?_modify, h]
set_option maxHeartbeats 1000000 in
theorem far_any (h : Int) (h0 : 0 ≤ h ∧ h ≤ 255) (w : World) : Calls Tryz.prog 162 #[.int .i64 h] w fun e w' => e = .returned (.int .i64 (St.far h)) ∧ w' = w := by
  have hw : wrap64 (h + 1) = h + 1 := by unfold wrap64; omega
  have hf : ∀ y, y = min (h + 1) 255 → y = St.far h := fun y hy => hy
  go_enter Tryz.func162, Tryz.ntmps162
  go_wp2
  all_goals (go_ret; exact ⟨ret_int (by unfold St.far; omega), rfl⟩)
theorem Pkt.Wf.num {p : Pkt} (h : p.Wf) : U32 p.id ∧ U32 p.dest ∧ U32 p.dseq ∧ U32 p.frm ∧ U32 p.fseq ∧ U32 p.life := by
  obtain ⟨_, _, _, _, _, _, h1, h2, h3, h4, h5, h6, h7, h8, h9, h10, h11, h12, _, _⟩ := h
  unfold U32
  omega
/-- A packet that is heard. -/
structure Pkt.Hd (p : Pkt) : Prop where
  wf : p.Wf
  ttl : 1 ≤ p.ttl ∧ p.ttl ≤ 255
  hops : 0 ≤ p.hops ∧ p.hops ≤ 255

set_option maxRecDepth 100000 in
set_option maxHeartbeats 4000000 in
theorem N_askOn {N B : Nat} {g : NdG} {s : St} {TL : List Hp.Tm} {w : World} (n : Nd N B g s TL w) (p : Pkt) (hq : p.Hd) (hL : HoldsL w p []) (hfl : s.frs.length ≤ 1000000) :
    Calls Tryz.prog 165 #[.pointer (some ⟨N, 0, none⟩), .pointer (some ⟨B, 0, none⟩), p.val] w fun e w' => e = .returned (.tuple #[]) ∧ NdP N B g s (s.askOn p) TL w w' := by
  have hp := hq.wf
  obtain ⟨_, hde, hds, _, _, _⟩ := hp.num
  have hb0 : Below w.heap.size w (w.alloc p.box) := (Below.refl _ _).alloc (Nat.le_refl _) _
  have hP0 := PB.new p w
  have n0 := n.later hb0
  obtain ⟨s2, hans⟩ : ∃ s2, s.askOn p = s2 := ⟨_, rfl⟩
  rw [hans]
  replace hans := (show Hid _ from hans)
  have hnu : U32 (numL s.A p.dest) := by
    unfold numL
    cases hl : lineOf s.A p.dest with
    | none => exact ⟨by simp, by simp⟩
    | some y => exact (n.nn.cr.tb.ok y (lineOf_some hl).1).seq
  dsimp only [Pkt.box] at hb0 n0
  unfold PB at hP0
  dsimp only [Pkt.box] at hP0
  go_enter Tryz.func165, Tryz.ntmps165
  go_upto_region 1 with (fail)
  generalize World.alloc _ _ = W1 at hb0 hP0 n0 ⊢
  have hC1 := (show Hid _ from HB.mk' n0 hP0 (Below.refl _ _))
  have HF := (show Hid _ from fun W5 (h5 : Below W1.heap.size W1 W5) => N_num (n0.later h5) p.dest hde)
  generalize hfd : (lineOf s.A p.dest).isSome = fd at HF
  generalize hnm : numL s.A p.dest = nm at HF hnu
  generalize hCC : w.heap.size = C at hP0 hC1 ⊢
  replace hCC := (show Hid _ from hCC)
  have hS : HB N B g.x.T C s.me s.seq s.sil s.now p W1 W1.drew := HB.drew hC1.out
  go_region_held3 (HB N B g.x.T C s.me s.seq s.sil s.now p W1) (first | with_reducible exact hS | with_reducible assumption) ((go_at_call 157; refine (HF.out _ (And.right (by assumption))).mono ?_; rintro e w2 ⟨rfl, rfl⟩))
  have hbd : Below W1.heap.size W1 W1.drew := (Below.refl _ _).drew
  have n2 := n0.later hbd
  have hP2 := PB.below hP0 hbd
  have hb2 := hb0.trans (hbd.mono hb0.size)
  clear hS hC1 HF hP0 n0 hb0 hbd
  generalize World.drew _ = W2 at n2 hP2 hb2 ⊢
  --TAIL
  have hwt : wrap64 (p.ttl - 1) = p.ttl - 1 := by
    have := hq.ttl
    unfold wrap64
    omega
  cases fd
  · have hans' : Hid (s.send 0 ({ p with ttl := p.ttl - 1, hops := St.far p.hops } : Pkt) [] = s2) := by
      rw [← hans.out]
      unfold St.askOn
      rw [hfd]
      rfl
    have hwf : ({ p with ttl := p.ttl - 1, hops := St.far p.hops } : Pkt).Wf := by
      have h1 := hq.ttl
      have h2 := hq.hops
      refine { hp with ttl0 := ?_, ttl1 := ?_, hops0 := ?_, hops1 := ?_ } <;> (unfold St.far; dsimp only; omega)
    go_upto_region 4 with (fail)
    have hbC : w.heap.size ≤ C := by rw [hCC.out]; exact Nat.le_refl _
    have hP4 := hP2.setTtl (p.ttl - 1)
    have hb4 : Below w.heap.size w (W2.setCell ⟨C, 0, none⟩ (.int .i64 (p.ttl - 1))) := hb2.setCell (p := ⟨C, 0, none⟩) hbC _
    obtain ⟨p0, p1, p2, p3, p4, p5, p6, p7, p8, p9, p10, p11⟩ := PB.cell hP2
    have f0 := PB.free hP2 0
    try dsimp only at p0 p1 p2 p3 p4 p5 p6 p7 p8 p9 p10 p11
    go_upto_region 5 with (fail)
    generalize World.setCell _ _ _ = W4 at hP4 hb4 ⊢
    clear p0 p1 p2 p3 p4 p5 p6 p7 p8 p9 p10 p11 f0 hP2 hb2
    obtain ⟨p0, p1, p2, p3, p4, p5, p6, p7, p8, p9, p10, p11⟩ := PB.cell hP4
    have f2 := PB.free hP4 2
    try dsimp only at p0 p1 p2 p3 p4 p5 p6 p7 p8 p9 p10 p11
    have hP5 := hP4.setHops (St.far p.hops)
    have hb5 : Below w.heap.size w (W4.setCell ⟨C, 2, none⟩ (.int .i64 (St.far p.hops))) := hb4.setCell (p := ⟨C, 2, none⟩) hbC _
    have n5 := n.later hb5
    have HS := (show Hid _ from N_send n5 0 ({ p with ttl := p.ttl - 1, hops := St.far p.hops } : Pkt) hwf [] (hL.below hb5) hfl)
    rw [hans'.out] at HS
    dsimp only [Pkt.val] at HS
    go_wp2_with fail
    refine Calls.mono (far_any p.hops hq.hops W4) ?_
    rintro e w4 ⟨rfl, rfl⟩
    clear hP4 hb4
    go_upto_region 6 with (fail)
    generalize World.setCell _ _ _ = W5 at hP5 hb5 n5 HS ⊢
    clear p0 p1 p2 p3 p4 p5 p6 p7 p8 p9 p10 p11 f2
    obtain ⟨p0, p1, p2, p3, p4, p5, p6, p7, p8, p9, p10, p11⟩ := PB.cell hP5
    try dsimp only at p0 p1 p2 p3 p4 p5 p6 p7 p8 p9 p10 p11
    go_wp2_with fail
    refine Calls.mono HS.out ?_
    rintro e w6 ⟨rfl, hN⟩
    go_wp2
    go_returns
    exact ⟨rfl, hN.pre hb5⟩
  · have hans' : Hid (s.send 0 ({ p with ttl := p.ttl - 1, hops := St.far p.hops, dseq := max p.dseq nm, unk := false } : Pkt) [] = s2) := by
      rw [← hans.out]
      unfold St.askOn
      rw [hfd, hnm]
      rfl
    have hwf : ({ p with ttl := p.ttl - 1, hops := St.far p.hops, dseq := max p.dseq nm, unk := false } : Pkt).Wf := by
      have h1 := hq.ttl
      have h2 := hq.hops
      have h3 := hds
      have h4 := hnu
      unfold U32 at h3 h4
      refine { hp with ttl0 := ?_, ttl1 := ?_, hops0 := ?_, hops1 := ?_, dseq0 := ?_, dseq1 := ?_ } <;> (unfold St.far; dsimp only; omega)
    have hbC0 : w.heap.size ≤ C := by rw [hCC.out]; exact Nat.le_refl _
    have hP3 := hP2.setDU (max p.dseq nm) false
    have hb3 : Below w.heap.size w ((W2.setCell ⟨C, 6, none⟩ (.int .u32 (max p.dseq nm))).setCell ⟨C, 3, none⟩ (.bool false)) := (hb2.setCell (p := ⟨C, 6, none⟩) hbC0 _).setCell (p := ⟨C, 3, none⟩) hbC0 _
    obtain ⟨p0, p1, p2, p3, p4, p5, p6, p7, p8, p9, p10, p11⟩ := PB.cell hP2
    have f6 := PB.free hP2 6
    have f3 := PB.free hP2 3
    go_upto_region 4 with (fail)
    generalize World.setCell _ _ _ = W3 at hP3 hb3 ⊢
    clear p0 p1 p2 p3 p4 p5 p6 p7 p8 p9 p10 p11 f6 f3 hP2 hb2
    have hbC : w.heap.size ≤ C := by rw [hCC.out]; exact Nat.le_refl _
    have hP4 := hP3.setTtl (p.ttl - 1)
    have hb4 : Below w.heap.size w (W3.setCell ⟨C, 0, none⟩ (.int .i64 (p.ttl - 1))) := hb3.setCell (p := ⟨C, 0, none⟩) hbC _
    obtain ⟨p0, p1, p2, p3, p4, p5, p6, p7, p8, p9, p10, p11⟩ := PB.cell hP3
    have f0 := PB.free hP3 0
    try dsimp only at p0 p1 p2 p3 p4 p5 p6 p7 p8 p9 p10 p11
    go_upto_region 5 with (fail)
    generalize World.setCell _ _ _ = W4 at hP4 hb4 ⊢
    clear p0 p1 p2 p3 p4 p5 p6 p7 p8 p9 p10 p11 f0 hP3 hb3
    obtain ⟨p0, p1, p2, p3, p4, p5, p6, p7, p8, p9, p10, p11⟩ := PB.cell hP4
    have f2 := PB.free hP4 2
    try dsimp only at p0 p1 p2 p3 p4 p5 p6 p7 p8 p9 p10 p11
    have hP5 := hP4.setHops (St.far p.hops)
    have hb5 : Below w.heap.size w (W4.setCell ⟨C, 2, none⟩ (.int .i64 (St.far p.hops))) := hb4.setCell (p := ⟨C, 2, none⟩) hbC _
    have n5 := n.later hb5
    have HS := (show Hid _ from N_send n5 0 ({ p with ttl := p.ttl - 1, hops := St.far p.hops, dseq := max p.dseq nm, unk := false } : Pkt) hwf [] (hL.below hb5) hfl)
    rw [hans'.out] at HS
    dsimp only [Pkt.val] at HS
    go_wp2_with fail
    refine Calls.mono (far_any p.hops hq.hops W4) ?_
    rintro e w4 ⟨rfl, rfl⟩
    clear hP4 hb4
    go_upto_region 6 with (fail)
    generalize World.setCell _ _ _ = W5 at hP5 hb5 n5 HS ⊢
    clear p0 p1 p2 p3 p4 p5 p6 p7 p8 p9 p10 p11 f2
    obtain ⟨p0, p1, p2, p3, p4, p5, p6, p7, p8, p9, p10, p11⟩ := PB.cell hP5
    try dsimp only at p0 p1 p2 p3 p4 p5 p6 p7 p8 p9 p10 p11
    go_wp2_with fail
    refine Calls.mono HS.out ?_
    rintro e w6 ⟨rfl, hN⟩
    go_wp2
    go_returns
    exact ⟨rfl, hN.pre hb5⟩
end Go.Proofs.YtakaadcpaeiccabGreat

namespace Go.Proofs.YtakaadcpaeiccabGreat
open Go.RowKit Go.Maps

theorem SameN.trans {a b c : St} (h : SameN a b) (k : SameN b c) : SameN a c := by
  obtain ⟨h1, h2, h3, h4, h5, h6, h7, h8, h9, h10, h11, h12, h13, h14, h15⟩ := h
  obtain ⟨k1, k2, k3, k4, k5, k6, k7, k8, k9, k10, k11, k12, k13, k14, k15⟩ := k
  exact ⟨k1.trans h1, k2.trans h2, k3.trans h3, k4.trans h4, k5.trans h5, k6.trans h6, k7.trans h7, k8.trans h8, k9.trans h9, k10.trans h10, k11.trans h11, k12.trans h12, k13.trans h13, k14.trans h14, k15.trans h15⟩
theorem same_answer (s : St) (p : Pkt) : SameN s (s.answer p) ∧ (s.answer p).now = s.now := by
  unfold St.answer
  split
  · exact ⟨sameN_send _ _ _ _, rfl⟩
  · exact ⟨sameN_drop _ _, rfl⟩
/-- The same cells behind a call. -/
theorem HC.next {N B C : Nat} {g g' : NdG} {s s' : St} {TL' : List Hp.Tm} {p : Pkt} {W : World} (n : Nd N B g' s' TL' W) (h : PB p C W) (t : g'.x.T = g.x.T) (h1 : s'.me = s.me) (h2 : s'.seq = s.seq) (h3 : s'.sil = s.sil) (h4 : s'.now = s.now) : HC N B g.x.T C s.me s.seq s.sil s.now p W := by
  have := HC.of n h
  rw [t, h1, h2, h3, h4] at this
  exact this
theorem Nd.drew {N B : Nat} {g : NdG} {s : St} {TL : List Hp.Tm} {W : World} (n : Nd N B g s TL W) : Nd N B g s TL W.drew := n.later (Below.refl _ _).drew
theorem HC.drewOf {N B C : Nat} {g : NdG} {s : St} {TL : List Hp.Tm} {p : Pkt} {W : World} (n : Nd N B g s TL W) (h : PB p C W) : HC N B g.x.T C s.me s.seq s.sil s.now p W.drew := HC.of n.drew h
theorem repP_wf {hops d q fm life : Int} (hh : I64 hops) (hd : U32 d) (hq : U32 q) (hf : U32 fm) (hl : U32 life) : (St.repP hops d q fm life).Wf := by
  have hz : (⟨#[]⟩ : ByteArray).size = 0 := rfl
  unfold U32 at hd hq hf hl
  unfold I64 at hh
  constructor <;> (dsimp only [St.repP]; omega)
theorem repP_L (W : World) (hops d q fm life : Int) : HoldsL W (St.repP hops d q fm life) [] := ⟨rfl, fun j hj => by simp at hj⟩

set_option maxRecDepth 100000 in
set_option maxHeartbeats 4000000 in
theorem N_answerSelf {N B : Nat} {g : NdG} {s : St} {TL : List Hp.Tm} {w : World} (n : Nd N B g s TL w) (p : Pkt) (hq : p.Hd) (hme : U32 s.me) (hsq : U32 s.seq) (hfl : s.frs.length ≤ 1000000) (hdl : s.drs.length ≤ 1000000) :
    Calls Tryz.prog 163 #[.pointer (some ⟨N, 0, none⟩), .pointer (some ⟨B, 0, none⟩), p.val] w fun e w' => e = .returned (.tuple #[]) ∧ NdP N B g s (s.answerSelf p) TL w w' := by
  have hp := hq.wf
  obtain ⟨_, hde, hds, hfr, _, _⟩ := hp.num
  have hb0 : Below w.heap.size w (w.alloc p.box) := (Below.refl _ _).alloc (Nat.le_refl _) _
  have hP0 := PB.new p w
  have n0 := n.later hb0
  have hmx : U32 (max s.seq p.dseq) := by
    unfold U32 at hsq hds ⊢
    omega
  obtain ⟨s2, hans⟩ : ∃ s2, s.answerSelf p = s2 := ⟨_, rfl⟩
  rw [hans]
  replace hans := (show Hid _ from hans)
  dsimp only [Pkt.box] at hb0 n0
  unfold PB at hP0
  dsimp only [Pkt.box] at hP0
  go_enter Tryz.func163, Tryz.ntmps163
  go_upto_region 1 with (fail)
  generalize World.alloc _ _ = W1 at hb0 hP0 n0 ⊢
  have hCn := n.new (k := w.heap.size) (Nat.le_refl _)
  generalize w.heap.size = C at hP0 hCn ⊢
  obtain ⟨p0, p1, p2, p3, p4, p5, p6, p7, p8, p9, p10, p11⟩ := PB.cell hP0
  obtain ⟨m0, m1, m2, m3, m4⟩ := n0.cell
  have f3 := n0.nn.cr.nd.free 3
  have hg1 : W1.grownBy (W1.setCell ⟨N, 3, none⟩ (.int .u32 (max s.seq p.dseq))) (some N) := grown_cellOf (grown_self _ (some N)) 3 _
  obtain ⟨e1, e2, e3, e4, e5, e6, e7, e8, e9⟩ := n0.nn.eq
  obtain ⟨n1, u1⟩ := n0.cells (s' := { s with seq := max s.seq p.dseq }) (n0.nn.cr.nd.setSeq (max s.seq p.dseq)) (Fx.grown hg1 fun k e => by cases e; rfl) ⟨e1, rfl, e3, e4, e5, e6, e7, e8, e9⟩ ⟨rfl, rfl, rfl, rfl, rfl, rfl⟩ ⟨rfl, rfl, rfl, rfl, rfl, rfl, rfl, rfl, rfl⟩ ⟨rfl, rfl, rfl, rfl, rfl⟩
  obtain ⟨hP1, hnC⟩ := u1.keep hP0 hCn (pk_offA p)
  go_region
  have n2 := n1.drew
  have hP2 : PB p C (W1.setCell ⟨N, 3, none⟩ (.int .u32 (max s.seq p.dseq))).drew := hP1
  have u2 := (u1.trans (.below (Below.refl _ _).drew) : Up B _ _ W1 (W1.setCell ⟨N, 3, none⟩ (.int .u32 (max s.seq p.dseq))).drew)
  have t2 : ({ g with x := { g.x with seq := max s.seq p.dseq } } : NdG).x.T = g.x.T := rfl
  generalize ({ g with x := { g.x with seq := max s.seq p.dseq } } : NdG) = g2 at n2 u2 t2 hnC
  clear n1 hP1 u1 hg1 e1 e2 e3 e4 e5 e6 e7 e8 e9 p0 p1 p2 p3 p4 p5 p6 p7 p8 p9 p10 p11 m0 m1 m2 m3 m4 f3 hP0 n0
  generalize World.drew _ = W2 at n2 hP2 u2 ⊢
  have hs2 := hans.out
  unfold St.answerSelf at hs2
  generalize max s.seq p.dseq = q at hs2 n2 u2 hmx hnC ⊢
  have hsm := same_answer { s with seq := q } (St.repP 0 s.me q p.frm 6000)
  have HA := hide (N_answer n2.drew (St.repP 0 s.me q p.frm 6000) (repP_wf (by unfold I64; omega) hme hmx hfr (by unfold U32; omega)) (repP_L _ _ _ _ _ _) hfl hdl)
  rw [hs2] at HA hsm
  dsimp only [Pkt.val, St.repP] at HA
  have hS := HC.drewOf n2 hP2
  go_wp2_with fail
  go_region_held3 (HC N B g2.x.T C s.me q s.sil s.now p) (first | with_reducible exact hS | with_reducible assumption) ((go_at_call 181; refine HA.out.mono ?_; rintro e w3 ⟨rfl, hN⟩; obtain ⟨g3, n3, u3, t3⟩ := hN; have hk3 := HC.next n3 (u3.box hP2 hnC) t3.out hsm.1.1 hsm.1.2.1 hsm.1.2.2.1 hsm.2))
  go_wp2
  go_returns
  exact ⟨rfl, NdP.pre hb0 ⟨g3, n3, (u2.trans (.below (Below.refl _ _).drew)).trans u3, t3.out.trans t2⟩⟩
end Go.Proofs.YtakaadcpaeiccabGreat

namespace Go.Proofs.YtakaadcpaeiccabGreat
open Go.RowKit Go.Maps

theorem rt_offA (y : Rt) (v : Value) : offA (rtBox y v) := ⟨fun c e => (by cases e), fun c e => (by cases e), fun c e => (by cases e), fun c e => (by cases e), fun c e => (by cases e)⟩
/-- The cells that a walk reads with a route at hand. -/
@[reducible] def HR (N B T C D : Nat) (me seq sil now : Int) (p : Pkt) (y : Rt) (v : Value) (W : World) : Prop :=
  HC N B T C me seq sil now p W ∧ W.cell? ⟨D, 0, none⟩ = some (.int .u32 y.dest) ∧ W.cell? ⟨D, 1, none⟩ = some (.int .u32 y.seq) ∧ W.cell? ⟨D, 2, none⟩ = some (.int .i64 y.hops) ∧ W.cell? ⟨D, 3, none⟩ = some (.int .u32 y.next) ∧ W.cell? ⟨D, 4, none⟩ = some (.bool y.valid) ∧ W.cell? ⟨D, 5, none⟩ = some (.int .u64 y.exp) ∧ W.cell? ⟨D, 6, none⟩ = some v
theorem HC.at {N B C T : Nat} {g : NdG} {s : St} {TL : List Hp.Tm} {p : Pkt} {W : World} {me seq sil now : Int} (n : Nd N B g s TL W) (h : PB p C W) (t : g.x.T = T) (h1 : s.me = me) (h2 : s.seq = seq) (h3 : s.sil = sil) (h4 : s.now = now) : HC N B T C me seq sil now p W := by
  subst t h1 h2 h3 h4
  exact HC.of n h
theorem HR.at {N B C D T : Nat} {g : NdG} {s : St} {TL : List Hp.Tm} {p : Pkt} {y : Rt} {v : Value} {W : World} {me seq sil now : Int} (n : Nd N B g s TL W) (h : PB p C W) (hD : LnB D y v W) (t : g.x.T = T) (h1 : s.me = me) (h2 : s.seq = seq) (h3 : s.sil = sil) (h4 : s.now = now) : HR N B T C D me seq sil now p y v W := ⟨HC.at n h t h1 h2 h3 h4, hD.cell⟩
theorem HR.drewAt {N B C D T : Nat} {g : NdG} {s : St} {TL : List Hp.Tm} {p : Pkt} {y : Rt} {v : Value} {W : World} {me seq sil now : Int} (n : Nd N B g s TL W) (h : PB p C W) (hD : LnB D y v W) (t : g.x.T = T) (h1 : s.me = me) (h2 : s.seq = seq) (h3 : s.sil = sil) (h4 : s.now = now) : HR N B T C D me seq sil now p y v W.drew := HR.at n.drew h hD t h1 h2 h3 h4
theorem HC.drewAt {N B C T : Nat} {g : NdG} {s : St} {TL : List Hp.Tm} {p : Pkt} {W : World} {me seq sil now : Int} (n : Nd N B g s TL W) (h : PB p C W) (t : g.x.T = T) (h1 : s.me = me) (h2 : s.seq = seq) (h3 : s.sil = sil) (h4 : s.now = now) : HC N B T C me seq sil now p W.drew := HC.at n.drew h t h1 h2 h3 h4
theorem life_eq (a b : Int) : IntKind.u32.wrap (IntKind.u64.wrap (a - b)) = (a - b) % 4294967296 := by
  simp only [IntKind.wrap, IntKind.signed, IntKind.bits]
  simp
theorem life_eq2 (a b : Int) : IntKind.u32.wrap (a - b) = (a - b) % 4294967296 := by
  simp only [IntKind.wrap, IntKind.signed, IntKind.bits]
  simp
theorem life_any {l : Int} {N B : Nat} {h d q f : Int} {W : World} {Q : Ending → World → Prop} (H : Hid (Calls Tryz.prog 181 #[.pointer (some ⟨N, 0, none⟩), .pointer (some ⟨B, 0, none⟩), .agg #[.int .i64 0, .int .i64 0, .int .i64 h, .bool false, .int .u32 0, .int .u32 d, .int .u32 q, .int .u32 f, .int .u32 0, .int .u32 l, .slice none 0 0, .string ⟨#[]⟩]] W Q)) :
    Hid (∀ l', l' = l → Calls Tryz.prog 181 #[.pointer (some ⟨N, 0, none⟩), .pointer (some ⟨B, 0, none⟩), .agg #[.int .i64 0, .int .i64 0, .int .i64 h, .bool false, .int .u32 0, .int .u32 d, .int .u32 q, .int .u32 f, .int .u32 0, .int .u32 l', .slice none 0 0, .string ⟨#[]⟩]] W Q) := by
  rintro _ rfl
  exact H
theorem Up.keepP {B C : Nat} {F F' : Nat → Prop} {p : Pkt} {a b : World} (u : Up B F F' a b) (h : PB p C a) (hn : ¬ F C) : PB p C b ∧ ¬ F' C := u.keep h hn (pk_offA p)
theorem Up.keepR {B D : Nat} {F F' : Nat → Prop} {y : Rt} {v : Value} {a b : World} (u : Up B F F' a b) (h : LnB D y v a) (hn : ¬ F D) : LnB D y v b ∧ ¬ F' D := u.keep h hn (rt_offA y v)
theorem findL_ok {A : List Rt} (hA : ∀ y ∈ A, y.Ok) (d now : Int) : (findL A d now).1.Ok ∨ (findL A d now).2 = false := by
  unfold findL
  cases hl : lineOf A d with
  | none => exact .inr rfl
  | some y =>
    by_cases hc : (y.valid && decide (now < y.exp)) = true
    · left
      have := hA y (lineOf_some hl).1
      simp_all
    · right
      by_cases hv : y.valid = true
      · by_cases he : now < y.exp
        · simp [hv, he] at hc
        · simp [hv, he]
      · simp [hv]

set_option maxRecDepth 100000 in
set_option maxHeartbeats 4000000 in
theorem N_answerOther {N B : Nat} {g : NdG} {s : St} {TL : List Hp.Tm} {w : World} (n : Nd N B g s TL w) (p : Pkt) (hq : p.Hd) (r : Rt) (hr : r.Ok) (ra : Option Addr) (rn rc : Nat) (_hnow : U64 s.now) (hfl : s.frs.length ≤ 1000000) (hdl : s.drs.length ≤ 1000000) :
    Calls Tryz.prog 164 #[.pointer (some ⟨N, 0, none⟩), .pointer (some ⟨B, 0, none⟩), p.val, rtV r (.slice ra rn rc)] w fun e w' => e = .returned (.tuple #[]) ∧ NdP N B g s (s.answerOther p r) TL w w' := by
  have hp := hq.wf
  obtain ⟨_, hde, hds, hfr, _, _⟩ := hp.num
  have hb0 : Below w.heap.size w ((w.alloc p.box).alloc (rtBox r (.slice ra rn rc))) := ((Below.refl _ _).alloc (Nat.le_refl _) _).alloc (by simp) _
  have hP0 : PB p w.heap.size ((w.alloc p.box).alloc (rtBox r (.slice ra rn rc))) := (((Below.refl _ (w.alloc p.box)).alloc (Nat.le_refl _) _).block _ (by simp)).trans (PB.new p w)
  have hR0 : LnB (w.heap.size + 1) r (.slice ra rn rc) ((w.alloc p.box).alloc (rtBox r (.slice ra rn rc))) := by
    have := heap_alloc_new (w.alloc p.box) (rtBox r (.slice ra rn rc))
    rw [World.size_alloc] at this
    exact this
  have n0 := n.later hb0
  obtain ⟨s2, hans⟩ : ∃ s2, s.answerOther p r = s2 := ⟨_, rfl⟩
  rw [hans]
  replace hans := hide hans
  dsimp only [Pkt.box, rtBox] at hb0 n0
  unfold PB at hP0
  unfold LnB at hR0
  dsimp only [Pkt.box, rtBox] at hP0 hR0
  go_enter Tryz.func164, Tryz.ntmps164
  go_upto_region 1 with (fail)
  generalize World.alloc (World.alloc _ _) _ = W1 at hb0 hP0 hR0 n0 ⊢
  have hCn := n.new (k := w.heap.size) (Nat.le_refl _)
  have hRn := n.new (k := w.heap.size + 1) (Nat.le_succ _)
  obtain ⟨⟨y, fd⟩, hy⟩ : ∃ r, findL s.A p.frm s.now = r := ⟨_, rfl⟩
  have hyok : fd = true → U32 y.next := fun h => by
    have := findL_ok n.nn.cr.tb.ok p.frm s.now
    rw [hy] at this
    rcases this with h1 | h1
    · exact h1.next
    · rw [h] at h1; cases h1
  have HF := hide (N_findP n0 p.frm s.now hfr hy)
  generalize hCC : w.heap.size = C at hP0 hR0 hCn hRn ⊢
  replace hCC := hide hCC
  go_cut [8, 9] from 10 to 23 (FoundP y fd W1)
  case first =>
    have hS : HB N B g.x.T C s.me s.seq s.sil s.now p W1 W1.drew := HB.drew (HB.mk' n0 hP0 (Below.refl _ _))
    have hkB := hide fun W5 h5 => HB.mk' (W := W5) n0 hP0 h5
    go_region_held3 (HB N B g.x.T C s.me s.seq s.sil s.now p W1) (first | with_reducible exact hS | with_reducible assumption | (with_reducible apply HB.kSet7 hkB; assumption) | (with_reducible apply HB.kAlloc hkB; assumption) | (with_reducible apply HB.kAllocDrew hkB) | (with_reducible apply hkB.out; assumption)) ((go_at_call 79; refine (HF.out _ (And.right (by assumption))).mono ?_; rintro e w2 ⟨ao, c, rfl, hb2, hpr⟩; try ((with_reducible have hD := hpr zeroR (.slice none 0 0) (zero_new W1)); obtain ⟨d0, d1, d2, d3, d4, d5, d6⟩ := hD.cell; have q0 := hD.free 0; have q1 := hD.free 1; have q2 := hD.free 2; have q3 := hD.free 3; have q4 := hD.free 4; have q5 := hD.free 5; have q6 := hD.free 6; have hD' : Hid (LnB W1.heap.size zeroR (.slice none 0 0) w2) := hD; clear hD); clear hpr))
    all_goals
      go_wp2_with fail
      go_meet
      first | with_reducible exact found_alloc hb2 | with_reducible exact found_set hb2 hD'
  case rest =>
    obtain ⟨E, ao, c, rfl, rfl, hE, hEl, hb2⟩ := hcut
    have hEn : ¬ Ft N g s E := n0.new hEl
    have n2 := n0.later hb2
    have hP2 := PB.below hP0 hb2
    have hR2 : LnB (C + 1) r (.slice ra rn rc) wc := LnB.later hR0 hb2
    have hbb := hb0.trans (hb2.mono hb0.size)
    have hs2 := hans.out
    unfold St.answerOther at hs2
    rw [hy] at hs2
    dsimp only at hs2
    clear HF hP0 hR0 n0 hb0 hb2 hans
    cases fd
    · rw [if_neg (by simp)] at hs2
      have HB4 := hide (N_before n2.drew p.frm r.next hfr hr.next)
      have hS : HR N B g.x.T C (C + 1) s.me s.seq s.sil s.now p r (.slice ra rn rc) wc.drew := HR.drewAt n2 hP2 hR2 rfl rfl rfl rfl rfl
      go_wp2_with fail
      go_region_held3 (HR N B g.x.T C (C + 1) s.me s.seq s.sil s.now p r (.slice ra rn rc)) (first | with_reducible exact hS | with_reducible assumption) ((go_at_call 182; refine HB4.out.mono ?_; rintro e w4 ⟨rfl, hN⟩; obtain ⟨g4, n4, u4, t4⟩ := hN; obtain ⟨hP4, hCn4⟩ := u4.keepP hP2 hCn; obtain ⟨hR4, hRn4⟩ := u4.keepR hR2 hRn; have hk4 : HR N B g.x.T C (C + 1) s.me s.seq s.sil s.now p r (.slice ra rn rc) w4 := HR.at n4 hP4 hR4 t4.out rfl rfl rfl rfl))
      clear hS hk4
      rename_i hHx
      clear hHx
      clear HB4
      have hsm := same_answer { s with A := befL s.A p.frm r.next } (St.repP r.hops p.dest r.seq p.frm ((r.exp - s.now) % 4294967296))
      have HA := hide (N_answer n4.drew (St.repP r.hops p.dest r.seq p.frm ((r.exp - s.now) % 4294967296)) (repP_wf hr.hops hde hr.seq hfr (by unfold U32; omega)) (repP_L _ _ _ _ _ _) hfl hdl)
      rw [hs2] at HA hsm
      dsimp only [Pkt.val, St.repP] at HA
      have HA' := life_any HA
      clear HA
      have hS : HR N B g4.x.T C (C + 1) s.me s.seq s.sil s.now p r (.slice ra rn rc) w4.drew := HR.drewAt n4 hP4 hR4 rfl rfl rfl rfl rfl
      go_wp2_with fail
      go_region_held3 (HR N B g4.x.T C (C + 1) s.me s.seq s.sil s.now p r (.slice ra rn rc)) (first | with_reducible exact hS | with_reducible assumption) ((go_at_call 181; refine (HA'.out _ (by first | exact life_eq _ _ | exact life_eq2 _ _ | rfl)).mono ?_; rintro e w5 ⟨rfl, hN⟩; obtain ⟨g5, n5, u5, t5⟩ := hN; obtain ⟨hP5, hCn5⟩ := u5.keepP hP4 hCn4; obtain ⟨hR5, hRn5⟩ := u5.keepR hR4 hRn4; have hk5 : HR N B g4.x.T C (C + 1) s.me s.seq s.sil s.now p r (.slice ra rn rc) w5 := HR.at n5 hP5 hR5 t5.out hsm.1.1 hsm.1.2.1 hsm.1.2.2.1 hsm.2))
      clear hS hk5
      rename_i hHx
      clear hHx
      go_wp2
      go_returns
      exact ⟨rfl, NdP.pre hbb ⟨g5, n5, (Up.trans (.below (Below.refl _ _).drew) u4).trans (Up.trans (.below (Below.refl _ _).drew) u5), t5.out.trans t4.out⟩⟩
    · rw [if_pos rfl] at hs2
      have hny := hyok rfl
      obtain ⟨e0, e1, e2, e3, e4, e5, e6⟩ := hE.cell
      have HB3 := hide (N_before n2.drew p.dest y.next hde hny)
      have hS : HR N B g.x.T C E s.me s.seq s.sil s.now p y (.slice ao y.bef.length c) wc.drew := HR.drewAt n2 hP2 hE rfl rfl rfl rfl rfl
      go_wp2_with fail
      go_region_held3 (HR N B g.x.T C E s.me s.seq s.sil s.now p y (.slice ao y.bef.length c)) (first | with_reducible exact hS | with_reducible assumption) ((go_at_call 182; refine HB3.out.mono ?_; rintro e w3 ⟨rfl, hN⟩; obtain ⟨g3, n3, u3, t3⟩ := hN; obtain ⟨hP3, hCn3⟩ := u3.keepP hP2 hCn; obtain ⟨hR3, hRn3⟩ := u3.keepR hR2 hRn; obtain ⟨hE3, hEn3⟩ := u3.keepR hE hEn; have hk3 : HR N B g.x.T C E s.me s.seq s.sil s.now p y (.slice ao y.bef.length c) w3 := HR.at n3 hP3 hE3 t3.out rfl rfl rfl rfl))
      clear hS hk3
      rename_i hHx
      clear hHx
      clear e0 e1 e2 e3 e4 e5 e6 HB3 hE hP2 hR2
      obtain ⟨s1, hs1⟩ : ∃ s1, ({ s with A := befL s.A p.dest y.next } : St) = s1 := ⟨_, rfl⟩
      have hs2' : ({ s1 with A := befL s1.A p.frm r.next } : St).answer (St.repP r.hops p.dest r.seq p.frm ((r.exp - s1.now) % 4294967296)) = s2 := by
        rw [← hs1]
        exact hs2
      have hfl1 : s1.frs.length ≤ 1000000 := by rw [← hs1]; exact hfl
      have hdl1 : s1.drs.length ≤ 1000000 := by rw [← hs1]; exact hdl
      rw [hs1] at n3 u3 hCn3 hRn3
      clear hs2 hs1 hEn3
      have hs2 := hs2'
      clear hs2'
      have HB4 := hide (N_before n3.drew p.frm r.next hfr hr.next)
      have hS : HR N B g3.x.T C (C + 1) s1.me s1.seq s1.sil s1.now p r (.slice ra rn rc) w3.drew := HR.drewAt n3 hP3 hR3 rfl rfl rfl rfl rfl
      go_wp2_with fail
      go_region_held3 (HR N B g3.x.T C (C + 1) s1.me s1.seq s1.sil s1.now p r (.slice ra rn rc)) (first | with_reducible exact hS | with_reducible assumption) ((go_at_call 182; refine HB4.out.mono ?_; rintro e w4 ⟨rfl, hN⟩; obtain ⟨g4, n4, u4, t4⟩ := hN; obtain ⟨hP4, hCn4⟩ := u4.keepP hP3 hCn3; obtain ⟨hR4, hRn4⟩ := u4.keepR hR3 hRn3; have hk4 : HR N B g3.x.T C (C + 1) s1.me s1.seq s1.sil s1.now p r (.slice ra rn rc) w4 := HR.at n4 hP4 hR4 t4.out rfl rfl rfl rfl))
      clear hS hk4
      rename_i hHx
      clear hHx
      clear HB4
      have hsm := same_answer { s1 with A := befL s1.A p.frm r.next } (St.repP r.hops p.dest r.seq p.frm ((r.exp - s1.now) % 4294967296))
      have HA := hide (N_answer n4.drew (St.repP r.hops p.dest r.seq p.frm ((r.exp - s1.now) % 4294967296)) (repP_wf hr.hops hde hr.seq hfr (by unfold U32; omega)) (repP_L _ _ _ _ _ _) hfl1 hdl1)
      rw [hs2] at HA hsm
      dsimp only [Pkt.val, St.repP] at HA
      have HA' := life_any HA
      clear HA
      have hS : HR N B g4.x.T C (C + 1) s1.me s1.seq s1.sil s1.now p r (.slice ra rn rc) w4.drew := HR.drewAt n4 hP4 hR4 rfl rfl rfl rfl rfl
      go_wp2_with fail
      go_region_held3 (HR N B g4.x.T C (C + 1) s1.me s1.seq s1.sil s1.now p r (.slice ra rn rc)) (first | with_reducible exact hS | with_reducible assumption) ((go_at_call 181; refine (HA'.out _ (by first | exact life_eq _ _ | exact life_eq2 _ _ | rfl)).mono ?_; rintro e w5 ⟨rfl, hN⟩; obtain ⟨g5, n5, u5, t5⟩ := hN; obtain ⟨hP5, hCn5⟩ := u5.keepP hP4 hCn4; obtain ⟨hR5, hRn5⟩ := u5.keepR hR4 hRn4; have hk5 : HR N B g4.x.T C (C + 1) s1.me s1.seq s1.sil s1.now p r (.slice ra rn rc) w5 := HR.at n5 hP5 hR5 t5.out hsm.1.1 hsm.1.2.1 hsm.1.2.2.1 hsm.2))
      clear hS hk5
      rename_i hHx
      clear hHx
      go_wp2
      go_returns
      exact ⟨rfl, NdP.pre hbb ⟨g5, n5, ((Up.trans (.below (Below.refl _ _).drew) u3).trans (Up.trans (.below (Below.refl _ _).drew) u4)).trans (Up.trans (.below (Below.refl _ _).drew) u5), t5.out.trans (t4.out.trans t3.out)⟩⟩
end Go.Proofs.YtakaadcpaeiccabGreat
