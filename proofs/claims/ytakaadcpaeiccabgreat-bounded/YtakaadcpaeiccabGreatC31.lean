import Derived.Test.YtakaadcpaeiccabGreatC30
namespace Go.Proofs.YtakaadcpaeiccabGreat
open Go.RowKit Go.Maps

theorem HoldsL.nil {W W' : World} {p : Pkt} (h : HoldsL W p []) : HoldsL W' p [] := ⟨h.1, fun j hj => by simp at hj⟩
theorem u64add {a c : Int} (h : 0 ≤ a ∧ a ≤ 4611686018427387904) (hc : 0 ≤ c ∧ c ≤ 8589934592) : IntKind.u64.wrap (a + c) = a + c := by
  simp only [IntKind.wrap, IntKind.signed, IntKind.bits]
  simp
  omega
set_option maxRecDepth 100000 in
set_option maxHeartbeats 8000000 in
theorem N_replyOn {N B : Nat} {g : NdG} {s : St} {TL : List Hp.Tm} {w : World} (n : Nd N B g s TL w) (fr : Int) (hfrm : U32 fr) (p : Pkt) (hq : p.Hd) (hL : HoldsL w p []) (hnow : 0 ≤ s.now ∧ s.now ≤ 4611686018427387904) (hfl : s.frs.length ≤ 1000000) (hdl : s.drs.length ≤ 1000000) :
    Calls Tryz.prog 166 #[.pointer (some ⟨N, 0, none⟩), .pointer (some ⟨B, 0, none⟩), .int .u32 fr, p.val] w fun e w' => e = .returned (.tuple #[]) ∧ NdP N B g s (s.replyOn fr p) TL w w' := by
  have hp := hq.wf
  obtain ⟨hid, hde, hds, hfr, hfs, _⟩ := hp.num
  have hb0 : Below w.heap.size w (w.alloc p.box) := (Below.refl _ _).alloc (Nat.le_refl _) _
  have hP0 := PB.new p w
  have n0 := n.later hb0
  obtain ⟨s2, hans⟩ : ∃ s2, s.replyOn fr p = s2 := ⟨_, rfl⟩
  rw [hans]
  have hs2 := hans
  replace hans := hide hans
  unfold St.replyOn at hs2
  replace hs2 := hide hs2
  dsimp only [Pkt.box] at hb0 n0
  unfold PB at hP0
  dsimp only [Pkt.box] at hP0
  go_enter Tryz.func166, Tryz.ntmps166
  go_upto_region 1 with (fail)
  generalize World.alloc _ _ = W1 at hb0 hP0 n0 ⊢
  have hCn := n.new (k := w.heap.size) (Nat.le_refl _)
  obtain ⟨⟨y, fd⟩, hy⟩ : ∃ r, findL s.A p.frm s.now = r := ⟨_, rfl⟩
  have HF := hide (N_findP n0 p.frm s.now hfr hy)
  generalize hCC : w.heap.size = C at hP0 hCn ⊢
  replace hCC := hide hCC
  go_cut [8, 9] from 10 to 23 (FoundP y fd W1)
  case first =>
    have hS : HB N B g.x.T C s.me s.seq s.sil s.now p W1 W1.drew := HB.drew (HB.mk' n0 hP0 (Below.refl _ _))
    have hkB := hide fun W5 h5 => HB.mk' (W := W5) n0 hP0 h5
    go_region_held3 (HB N B g.x.T C s.me s.seq s.sil s.now p W1) (first | with_reducible exact hS | with_reducible assumption | (with_reducible apply HB.kSet7 hkB; assumption) | (with_reducible apply HB.kAlloc hkB; assumption) | (with_reducible apply HB.kAllocDrew hkB) | (with_reducible apply hkB.out; assumption)) ((go_at_call 79; refine (HF.out _ (And.right (by assumption))).mono ?_; rintro e w2 ⟨ao, c, rfl, hb2, hpr⟩; try ((with_reducible have hD := hpr zeroR (.slice none 0 0) (zero_new W1)); obtain ⟨d0, d1, d2, d3, d4, d5, d6⟩ := hD.cell; have q0 := hD.free 0; have q1 := hD.free 1; have q2 := hD.free 2; have q3 := hD.free 3; have q4 := hD.free 4; have q5 := hD.free 5; have q6 := hD.free 6; have hD' : Hid (LnB W1.heap.size zeroR (.slice none 0 0) w2) := hD; clear hD); clear hpr))
    all_goals
      go_wp2_with fail
      go_meet
      first | with_reducible exact found_alloc hb2 | with_reducible exact found_set hb2 hD'
  case rest =>
    obtain ⟨E, ao, c, rfl, rfl, hE, hEl, hb2⟩ := hcut
    have hEn : ¬ Ft N g s E := n0.new hEl
    have hyok : fd = true → U32 y.next := fun h => by
      have := findL_ok n.nn.cr.tb.ok p.frm s.now
      rw [hy] at this
      rcases this with h1 | h1
      · exact h1.next
      · rw [h] at h1; cases h1
    have n2 := n0.later hb2
    have hP2 : PB p C wc := PB.below hP0 hb2
    have hbb := hb0.trans (hb2.mono hb0.size)
    have hCE : C ≠ E := by have := PB.lt hP0; omega
    have hs3 := hs2.out
    rw [hy] at hs3
    dsimp only at hs3
    clear HF hP0 n0 hb0 hb2 hans hs2
    cases fd
    · rw [if_neg (by simp)] at hs3
      have HX := hide (N_drop n2 3 hdl)
      rw [hs3] at HX
      clear hP2 hE
      go_wp2_with fail
      refine Calls.mono HX.out ?_
      rintro e w9 ⟨rfl, hN⟩
      go_wp2
      go_returns
      exact ⟨rfl, hN.pre hbb⟩
    · rw [if_pos rfl] at hs3
      have hyn := hyok rfl
      have hwt : wrap64 (p.ttl - 1) = p.ttl - 1 := by
        have := hq.ttl
        unfold wrap64
        omega
      have hbC : w.heap.size ≤ C := by rw [hCC.out]; exact Nat.le_refl _
      have hP4 := hP2.setTtl (p.ttl - 1)
      have hb4 : Below w.heap.size w (wc.setCell ⟨C, 0, none⟩ (.int .i64 (p.ttl - 1))) := hbb.setCell (p := ⟨C, 0, none⟩) hbC _
      have hE4 : LnB E y (.slice ao y.bef.length c) (wc.setCell ⟨C, 0, none⟩ (.int .i64 (p.ttl - 1))) := (Below.heap_setCell _ _ _ _ (Ne.symm hCE)).trans hE
      obtain ⟨p0, p1, p2, p3, p4, p5, p6, p7, p8, p9, p10, p11⟩ := PB.cell hP2
      have f0 := PB.free hP2 0
      clear n2 hP2 hE hbb
      go_upto_region 5 with (fail)
      generalize World.setCell _ _ _ = W4 at hP4 hb4 hE4 ⊢
      clear p0 p1 p2 p3 p4 p5 p6 p7 p8 p9 p10 p11 f0
      obtain ⟨p0, p1, p2, p3, p4, p5, p6, p7, p8, p9, p10, p11⟩ := PB.cell hP4
      have f2 := PB.free hP4 2
      dsimp only at p0 p1 p2 p3 p4 p5 p6 p7 p8 p9 p10 p11
      have hP5 : PB ({ p with ttl := p.ttl - 1, hops := St.far p.hops } : Pkt) C (W4.setCell ⟨C, 2, none⟩ (.int .i64 (St.far p.hops))) := hP4.setHops (St.far p.hops)
      have hb5 : Below w.heap.size w (W4.setCell ⟨C, 2, none⟩ (.int .i64 (St.far p.hops))) := hb4.setCell (p := ⟨C, 2, none⟩) hbC _
      have hE5 : LnB E y (.slice ao y.bef.length c) (W4.setCell ⟨C, 2, none⟩ (.int .i64 (St.far p.hops))) := (Below.heap_setCell _ _ _ _ (Ne.symm hCE)).trans hE4
      have n5 := n.later hb5
      have hwf : ({ p with ttl := p.ttl - 1, hops := St.far p.hops } : Pkt).Wf := by
        have h1 := hq.ttl
        have h2 := hq.hops
        refine { hp with ttl0 := ?_, ttl1 := ?_, hops0 := ?_, hops1 := ?_ } <;> (unfold St.far; dsimp only; omega)
      have HS := hide (N_send n5 y.next ({ p with ttl := p.ttl - 1, hops := St.far p.hops } : Pkt) hwf [] (hL.below hb5) hfl)
      obtain ⟨s6, hs6⟩ : ∃ z, s.send y.next ({ p with ttl := p.ttl - 1, hops := St.far p.hops } : Pkt) [] = z := ⟨_, rfl⟩
      rw [hs6] at HS
      dsimp only [Pkt.val] at HS
      have h6 : Hid (s6.now = s.now ∧ s6.A = s.A ∧ { s6 with A := useL (befL (befL s6.A p.dest y.next) p.frm fr) p.frm (s.now + 3000) } = s2) := by
        show _ ∧ _ ∧ _
        rw [← hs6]
        exact ⟨rfl, rfl, hs3⟩
      clear hs3 hs6
      go_wp2_with fail
      refine Calls.mono (far_any p.hops hq.hops W4) ?_
      rintro e w4 ⟨rfl, rfl⟩
      clear hP4 hb4 hE4
      go_upto_region 6 with (fail)
      generalize World.setCell _ _ _ = W5 at hP5 hb5 hE5 n5 HS ⊢
      clear p0 p1 p2 p3 p4 p5 p6 p7 p8 p9 p10 p11 f2
      obtain ⟨p0, p1, p2, p3, p4, p5, p6, p7, p8, p9, p10, p11⟩ := PB.cell hP5
      obtain ⟨e0, e1, e2, e3, e4, e5, e6⟩ := hE5.cell
      dsimp only at p0 p1 p2 p3 p4 p5 p6 p7 p8 p9 p10 p11
      go_wp2_with fail
      refine Calls.mono HS.out ?_
      rintro e w6 ⟨rfl, hN⟩
      obtain ⟨g6, n6, u6, t6⟩ := hN
      clear p0 p1 p2 p3 p4 p5 p6 p7 p8 p9 p10 p11 e0 e1 e2 e3 e4 e5 e6 HS
      obtain ⟨hP6, hCn6⟩ := u6.keepP hP5 hCn
      obtain ⟨hE6, hEn6⟩ := u6.keepR hE5 hEn
      have ua6 : Up B (Ft N g s) (Ft N g6 s6) w w6 := (Up.below hb5).trans u6
      clear hP5 hE5 n5 u6 hb5
      have HB := hide (N_before n6.drew p.dest y.next hde hyn)
      have hS : HR N B g6.x.T C E s6.me s6.seq s6.sil s6.now ({ p with ttl := p.ttl - 1, hops := St.far p.hops } : Pkt) y (.slice ao y.bef.length c) w6.drew := HR.drewAt n6 hP6 hE6 rfl rfl rfl rfl rfl
      go_wp2_with fail
      go_region_held3 (HR N B g6.x.T C E s6.me s6.seq s6.sil s6.now ({ p with ttl := p.ttl - 1, hops := St.far p.hops } : Pkt) y (.slice ao y.bef.length c)) (first | with_reducible exact hS | with_reducible assumption) ((go_at_call 182; refine (HB.out).mono ?_; rintro e w7 ⟨rfl, hN⟩; obtain ⟨g7, n7, u7, t7⟩ := hN; obtain ⟨hP7, hCn7⟩ := u7.keepP hP6 hCn6; obtain ⟨hE7, hEn7⟩ := u7.keepR hE6 hEn6; have hk7 : HR N B g6.x.T C E s6.me s6.seq s6.sil s6.now ({ p with ttl := p.ttl - 1, hops := St.far p.hops } : Pkt) y (.slice ao y.bef.length c) w7 := HR.at n7 hP7 hE7 t7.out rfl rfl rfl rfl))
      clear hS hk7
      rename_i hHx
      clear hHx
      clear HB
      have ua7 := (ua6.trans (.below (Below.refl _ _).drew)).trans u7
      obtain ⟨s7, hs7⟩ : ∃ z, ({ s6 with A := befL s6.A p.dest y.next } : St) = z := ⟨_, rfl⟩
      have h7 : Hid (s7.now = s.now ∧ { s7 with A := useL (befL s7.A p.frm fr) p.frm (s.now + 3000) } = s2) := by
        show _ ∧ _
        rw [← hs7]
        exact ⟨h6.out.1, h6.out.2.2⟩
      rw [hs7] at n7 ua7 hCn7 hEn7
      clear hs7 ua6 u7 n6 hP6 hE6 hCn6 hEn6 h6
      have HB := hide (N_before n7.drew p.frm fr hfr hfrm)
      have hS : HR N B g7.x.T C E s7.me s7.seq s7.sil s7.now ({ p with ttl := p.ttl - 1, hops := St.far p.hops } : Pkt) y (.slice ao y.bef.length c) w7.drew := HR.drewAt n7 hP7 hE7 rfl rfl rfl rfl rfl
      go_wp2_with fail
      go_region_held3 (HR N B g7.x.T C E s7.me s7.seq s7.sil s7.now ({ p with ttl := p.ttl - 1, hops := St.far p.hops } : Pkt) y (.slice ao y.bef.length c)) (first | with_reducible exact hS | with_reducible assumption) ((go_at_call 182; refine (HB.out).mono ?_; rintro e w8 ⟨rfl, hN⟩; obtain ⟨g8, n8, u8, t8⟩ := hN; obtain ⟨hP8, hCn8⟩ := u8.keepP hP7 hCn7; obtain ⟨hE8, hEn8⟩ := u8.keepR hE7 hEn7; have hk8 : HR N B g7.x.T C E s7.me s7.seq s7.sil s7.now ({ p with ttl := p.ttl - 1, hops := St.far p.hops } : Pkt) y (.slice ao y.bef.length c) w8 := HR.at n8 hP8 hE8 t8.out rfl rfl rfl rfl))
      clear hS hk8
      rename_i hHx
      clear hHx
      clear HB
      have ua8 := (ua7.trans (.below (Below.refl _ _).drew)).trans u8
      obtain ⟨s8, hs8⟩ : ∃ z, ({ s7 with A := befL s7.A p.frm fr } : St) = z := ⟨_, rfl⟩
      have h8 : Hid (s8.now = s.now ∧ { s8 with A := useL s8.A p.frm (s.now + 3000) } = s2) := by
        show _ ∧ _
        rw [← hs8]
        exact ⟨h7.out.1, h7.out.2⟩
      rw [hs8] at n8 ua8 hCn8 hEn8
      clear hs8 ua7 u8 n7 hP7 hE7 hCn7 hEn7 h7
      have HV : Hid (∀ t, t = s8.now + 3000 → Calls Tryz.prog 81 #[.pointer (some ⟨g8.x.T, 0, none⟩), .int .u32 p.frm, .int .u64 t] w8.drew fun r w' => r = .returned (.tuple #[]) ∧ NdP N B g8 s8 s2 TL w8.drew w') := by
        rintro _ rfl
        have := N_use n8.drew p.frm (s8.now + 3000) hfr (by have := h8.out.1; unfold U64; omega)
        rw [show ({ s8 with A := useL s8.A p.frm (s8.now + 3000) } : St) = s2 from by have e := h8.out.2; rw [← h8.out.1] at e; exact e] at this
        exact this
      have hn8 : 0 ≤ s8.now ∧ s8.now ≤ 4611686018427387904 := by rw [h8.out.1]; exact hnow
      have hsm : Hid (s2.me = s8.me ∧ s2.seq = s8.seq ∧ s2.sil = s8.sil ∧ s2.now = s8.now) := by
        show _ ∧ _
        rw [← h8.out.2]
        exact ⟨rfl, rfl, rfl, rfl⟩
      have hS : HR N B g8.x.T C E s8.me s8.seq s8.sil s8.now ({ p with ttl := p.ttl - 1, hops := St.far p.hops } : Pkt) y (.slice ao y.bef.length c) w8.drew := HR.drewAt n8 hP8 hE8 rfl rfl rfl rfl rfl
      go_wp2_with fail
      go_region_held3 (HR N B g8.x.T C E s8.me s8.seq s8.sil s8.now ({ p with ttl := p.ttl - 1, hops := St.far p.hops } : Pkt) y (.slice ao y.bef.length c)) (first | with_reducible exact hS | with_reducible assumption) ((go_at_call 81; refine (HV.out _ (by first | rfl | exact u64add hn8 (by decide))).mono ?_; rintro e w9 ⟨rfl, hN⟩; obtain ⟨g9, n9, u9, t9⟩ := hN; obtain ⟨hP9, hCn9⟩ := u9.keepP hP8 hCn8; obtain ⟨hE9, hEn9⟩ := u9.keepR hE8 hEn8; have hk9 : HR N B g8.x.T C E s8.me s8.seq s8.sil s8.now ({ p with ttl := p.ttl - 1, hops := St.far p.hops } : Pkt) y (.slice ao y.bef.length c) w9 := HR.at n9 hP9 hE9 t9.out hsm.out.1 hsm.out.2.1 hsm.out.2.2.1 hsm.out.2.2.2))
      clear hS hk9
      rename_i hHx
      clear hHx
      have ua9 := (ua8.trans (.below (Below.refl _ _).drew)).trans u9
      have ta : g9.x.T = g.x.T := t9.out.trans (t8.out.trans (t7.out.trans t6.out))
      clear hP8 hE8 hP9 hE9
      go_wp2
      go_returns
      exact ⟨rfl, g9, n9, ua9, ta⟩
end Go.Proofs.YtakaadcpaeiccabGreat

namespace Go.Proofs.YtakaadcpaeiccabGreat
open Go.RowKit Go.Maps

/-- Do neighbours use the line of a destination? -/
def usedL (A : List Rt) (d : Int) : Bool := (lineOf A d).any fun y => decide (0 < y.bef.length)
set_option maxHeartbeats 1000000 in
theorem tused_any {me : Int} {T M : Nat} {f : Int → Option Nat} {g : Int → Value} {A : List Rt} {w : World} (h : MT me T M f g A w) (d : Int) (hd : U32 d) :
    Calls Tryz.prog 167 #[.pointer (some ⟨T, 0, none⟩), .int .u32 d] w fun e w' => e = .returned (.bool (usedL A d)) ∧ w' = w := by
  obtain ⟨t0, t1⟩ := h.blk.cell
  have hlk := h.map.look hd
  cases hl : lineOf A d with
  | none =>
    rw [h.off hd hl] at hlk
    simp only [ptrOf] at hlk
    have hn : usedL A d = false := by simp [usedL, hl]
    rw [hn]
    clear h hn hl
    go_enter Tryz.func167, Tryz.ntmps167
    go_wp2
    go_ret
    exact ⟨rfl, rfl⟩
  | some x =>
    obtain ⟨_, _, B, hB, hL, hR⟩ := h.line hl
    rw [hB] at hlk
    simp only [ptrOf] at hlk
    obtain ⟨ag, cg, hg, _⟩ := row_form hR
    obtain ⟨b0, b1, b2, b3, b4, b5, b6⟩ := hL.cell
    rw [hg] at b6
    have hn : usedL A d = decide (0 < x.bef.length) := by simp [usedL, hl]
    rw [hn]
    clear h hn hl hL hB hR
    by_cases h0 : 0 < x.bef.length
    · have h1 : (0 : Int) < (x.bef.length : Int) := by omega
      go_enter Tryz.func167, Tryz.ntmps167
      go_wp2
      go_ret
      exact ⟨by simp [h0], rfl⟩
    · have h1 : ¬ (0 : Int) < (x.bef.length : Int) := by omega
      go_enter Tryz.func167, Tryz.ntmps167
      go_wp2
      go_ret
      exact ⟨by simp, rfl⟩

/-- The number of a destination's line grows. -/

def growL (A : List Rt) (d : Int) : List Rt := modL A d St.growF
set_option maxRecDepth 100000 in
set_option maxHeartbeats 2000000 in
theorem tgrow_any {me : Int} {T M : Nat} {f : Int → Option Nat} {g : Int → Value} {A : List Rt} {w : World} (h : MT me T M f g A w) (d : Int) (hd : U32 d) :
    Calls Tryz.prog 169 #[.pointer (some ⟨T, 0, none⟩), .int .u32 d] w fun e w' => ∃ g', e = .returned (.tuple #[]) ∧ MT me T M f g' (growL A d) w' ∧ (∀ k, TIn T M f g' (growL A d) k → TIn T M f g A k) ∧ Fx (TIn T M f g A) w w' := by
  obtain ⟨t0, t1⟩ := h.blk.cell
  have hlk := h.map.look hd
  cases hl : lineOf A d with
  | none =>
    rw [h.off hd hl] at hlk
    simp only [ptrOf] at hlk
    have hn : growL A d = A := modL_none hl St.growF
    rw [hn]
    go_enter Tryz.func169, Tryz.ntmps169
    go_wp2
    go_returns
    exact ⟨g, rfl, h, fun _ h => h, Fx.refl _ _⟩
  | some x =>
    obtain ⟨hxA, hxd, B, hB, hL, hR⟩ := h.line hl
    rw [hB] at hlk
    simp only [ptrOf] at hlk
    obtain ⟨b0, b1, b2, b3, b4, b5, b6⟩ := hL.cell
    have fz := hL.free 1
    have hxok := h.ok x hxA
    have hg1 : w.grownBy (w.setCell ⟨B, 1, none⟩ (.int .u32 (gr x.seq))) (some B) := grown_cellOf (grown_self _ (some B)) 1 _
    have hL1 := hL.set1 (gr x.seq)
    have hBo : ∀ c, rtBox x (g d) ≠ .cells c 34 (0, 0) := fun c e => (by cases e)
    have hR1 := hR.kept hg1 (.inr (row_not hR hL hBo))
    obtain ⟨k1, k2⟩ := h.turn hl hB St.growF (fun _ => rfl) ⟨hxok.dest, gr_u32 hxok.seq, hxok.hops, hxok.next, hxok.exp, hxok.befs, hxok.bef, hxok.asc⟩ (g d) hL1 hR1 (.inr (.inl rfl)) (fun k hk hkB _ => hg1.block k (h.lt hk) (fun e => hkB (by cases e; rfl)))
    have hfx : Fx (TIn T M f g A) w (w.setCell ⟨B, 1, none⟩ (.int .u32 (gr x.seq))) := Fx.grown hg1 fun k e => by
      cases e
      exact .inr (.inr ⟨x, hxA, .inl (by rw [hxd]; exact hB)⟩)
    have hin : ∀ k, TIn T M f (fun e => if e = d then g d else g e) (growL A d) k → TIn T M f g A k := fun k hk => by
      rcases k2 k hk with h1 | h1
      · exact h1
      · exact .inr (.inr ⟨x, hxA, .inr (by rw [hxd]; exact h1)⟩)
    clear h hL hR hg1 hL1 hR1 k2 hB
    go_enter Tryz.func169, Tryz.ntmps169
    go_wp2_with (go_at_call 42; refine (grown_any _ _).mono ?_; rintro e w5 ⟨rfl, rfl⟩)
    go_returns
    exact ⟨_, rfl, k1, hin, hfx⟩
theorem N_used {N B : Nat} {g : NdG} {s : St} {TL : List Hp.Tm} {w : World} (n : Nd N B g s TL w) (d : Int) (hd : U32 d) :
    Calls Tryz.prog 167 #[.pointer (some ⟨g.x.T, 0, none⟩), .int .u32 d] w fun e w' => e = .returned (.bool (usedL s.A d)) ∧ w' = w := tused_any n.nn.cr.tb d hd
theorem N_grow {N B : Nat} {g : NdG} {s : St} {TL : List Hp.Tm} {w : World} (n : Nd N B g s TL w) (d : Int) (hd : U32 d) :
    Calls Tryz.prog 169 #[.pointer (some ⟨g.x.T, 0, none⟩), .int .u32 d] w fun e w' => e = .returned (.tuple #[]) ∧ NdP N B g s { s with A := modL s.A d St.growF } TL w w' := by
  have h := n.nn.cr.tb
  rw [n.nn.eq.self] at h
  refine (tgrow_any h d hd).mono ?_
  rintro e w' ⟨g', rfl, h1, h2, h3⟩
  exact ⟨rfl, n.tableP ⟨_, _, _, h1, fun k hk => .inl (h2 k hk)⟩ h3⟩
theorem info_tx : (Tryz.prog.info? 56).map (fun i => (i.zero, i.size, i.bytes)) = some (some (.agg #[.int .u32 0, .string ⟨#[]⟩]), 2, 24) := by kernel_rfl
theorem cells_tx (W : World) (t : Int) (s : ByteArray) : ∀ (j : Nat) (u : Value), (FrC [(t, s)])[j]? = some u → (W.alloc (.cells #[.int .u32 t, .string s] 56)).cell? ((⟨W.heap.size, 0, none⟩ : Addr).add j) = some u := by
  intro j u hj
  have h := heap_alloc_new W (.cells #[.int .u32 t, .string s] 56)
  rw [Addr.add_lit, Nat.zero_add]
  match j, hj with
  | 0, hj => exact (cell_of_row _ _ 0 _ _ _ h).trans hj
  | 1, hj => exact (cell_of_row _ _ 1 _ _ _ h).trans hj
  | j + 2, hj => simp [FrC] at hj
theorem AcM.comes {B base : Nat} {a : AcV} {nws : List (Bool × Int × Int)} {frs cms cms' : List (Int × ByteArray)} {drs : List Int} {W W7 : World} (h : AcM B base a nws frs cms drs W) {v7 : Value} (ho : W7.ownsRow base 56 2 v7 cms'.length (FrC cms')) (hg : W.grownBy W7 a.cam.ownBlock) :
    AcB B a W7 ∧ AcM B base { a with cam := v7 } nws frs cms' drs (W7.setCell ⟨B, 5, none⟩ v7) ∧ Fx (AcIn B a) W (W7.setCell ⟨B, 5, none⟩ v7) := by
  have hBr : a.cam.ownBlock ≠ some B := row_not h.cam h.blk (fun c e => (by cases e))
  have hB7 : AcB B a W7 := h.blk.block (hg.block _ h.blk.lt (fun e => hBr e.symm))
  have hg2 : W7.grownBy (W7.setCell ⟨B, 5, none⟩ v7) (some B) := grown_cellOf (grown_self _ (some B)) 5 v7
  have f1 := h.drp.kept hg (rows_apart h.drp h.cam (by decide))
  have f2 := h.frm.kept hg (rows_apart h.frm h.cam (by decide))
  have f3 := h.wrt.kept hg (rows_apart h.wrt h.cam (by decide))
  exact ⟨hB7, ⟨hB7.setCam v7, f3.kept hg2 (.inr (row_not f3 hB7 (fun c e => (by cases e)))), f2.kept hg2 (.inr (row_not f2 hB7 (fun c e => (by cases e)))), ho.kept hg2 (.inr (row_not ho hB7 (fun c e => (by cases e)))), f1.kept hg2 (.inr (row_not f1 hB7 (fun c e => (by cases e))))⟩,
    grown_Fx (Fx.grown hg fun k e => .inr (.inr (.inr (.inl e)))) hg2 fun i _ e => by cases e; exact .inl rfl⟩
end Go.Proofs.YtakaadcpaeiccabGreat

namespace Go.Proofs.YtakaadcpaeiccabGreat
open Go.RowKit Go.Maps

set_option maxRecDepth 100000 in
set_option maxHeartbeats 8000000 in
theorem N_hearData {N B : Nat} {g : NdG} {s : St} {TL : List Hp.Tm} {w : World} (n : Nd N B g s TL w) (fr : Int) (_hfrm : U32 fr) (p : Pkt) (hq : p.Hd) (hL : HoldsL w p []) (hnow : 0 ≤ s.now ∧ s.now ≤ 4611686018427387904) (hfl : s.frs.length ≤ 1000000) (hdl : s.drs.length ≤ 1000000) (hcl : s.cms.length ≤ 1000000) :
    Calls Tryz.prog 133 #[.pointer (some ⟨N, 0, none⟩), .pointer (some ⟨B, 0, none⟩), .int .u32 fr, p.val] w fun e w' => e = .returned (.tuple #[]) ∧ NdP N B g s (s.hearData fr p) TL w w' := by
  have hp := hq.wf
  obtain ⟨hid, hde, hds, hfr, hfs, _⟩ := hp.num
  have hb0 : Below w.heap.size w (w.alloc p.box) := (Below.refl _ _).alloc (Nat.le_refl _) _
  have hP0 := PB.new p w
  have n0 := n.later hb0
  obtain ⟨s2, hans⟩ : ∃ s2, s.hearData fr p = s2 := ⟨_, rfl⟩
  rw [hans]
  have hs2 := hans
  unfold St.hearData at hs2
  replace hs2 := hide hs2
  dsimp only [Pkt.box] at hb0 n0
  unfold PB at hP0
  dsimp only [Pkt.box] at hP0
  go_enter Tryz.func133, Tryz.ntmps133
  go_upto_region 1 with (fail)
  generalize World.alloc _ _ = W1 at hb0 hP0 n0 ⊢
  have hCn := n.new (k := w.heap.size) (Nat.le_refl _)
  obtain ⟨⟨y, fd⟩, hy⟩ : ∃ r, findL s.A p.dest s.now = r := ⟨_, rfl⟩
  have HF := hide (N_findP n0 p.dest s.now hde hy)
  generalize hCC : w.heap.size = C at hP0 hCn ⊢
  replace hCC := hide hCC
  go_cut [8, 9] from 10 to 23 (FoundP y fd W1)
  case first =>
    have hS : HB N B g.x.T C s.me s.seq s.sil s.now p W1 W1.drew := HB.drew (HB.mk' n0 hP0 (Below.refl _ _))
    have hkB := hide fun W5 h5 => HB.mk' (W := W5) n0 hP0 h5
    go_region_held3 (HB N B g.x.T C s.me s.seq s.sil s.now p W1) (first | with_reducible exact hS | with_reducible assumption | (with_reducible apply HB.kSet7 hkB; assumption) | (with_reducible apply HB.kAlloc hkB; assumption) | (with_reducible apply HB.kAllocDrew hkB) | (with_reducible apply hkB.out; assumption)) ((go_at_call 79; refine (HF.out _ (And.right (by assumption))).mono ?_; rintro e w2 ⟨ao, c, rfl, hb2, hpr⟩; try ((with_reducible have hD := hpr zeroR (.slice none 0 0) (zero_new W1)); obtain ⟨d0, d1, d2, d3, d4, d5, d6⟩ := hD.cell; have q0 := hD.free 0; have q1 := hD.free 1; have q2 := hD.free 2; have q3 := hD.free 3; have q4 := hD.free 4; have q5 := hD.free 5; have q6 := hD.free 6; have hD' : Hid (LnB W1.heap.size zeroR (.slice none 0 0) w2) := hD; clear hD); clear hpr))
    all_goals
      go_wp2_with fail
      go_meet
      first | with_reducible exact found_alloc hb2 | with_reducible exact found_set hb2 hD'
  case rest =>
    obtain ⟨E, ao, c, rfl, rfl, hE, hEl, hb2⟩ := hcut
    have hEn : ¬ Ft N g s E := n0.new hEl
    have hyok : fd = true → U32 y.next := fun h => by
      have := findL_ok n.nn.cr.tb.ok p.dest s.now
      rw [hy] at this
      rcases this with h1 | h1
      · exact h1.next
      · rw [h] at h1; cases h1
    have hCE : C ≠ E := by have := PB.lt hP0; omega
    have hP2 : PB p C wc.drew := PB.below hP0 hb2.drew
    have hE2 : LnB E y (.slice ao y.bef.length c) wc.drew := hE
    have hbb : Below w.heap.size w wc.drew := (hb0.trans (hb2.mono hb0.size)).drew
    have n2 := n.later hbb
    have hS : HC N B g.x.T C s.me s.seq s.sil s.now p wc.drew := HC.of n2 hP2
    have hs3 := hs2.out
    rw [hy] at hs3
    dsimp only at hs3
    clear HF hP0 n0 hb0 hb2 hans hs2 hE
    by_cases hds1 : p.dest = s.me
    · have hbe : (p.dest == s.me) = true := by simpa using hds1
      rw [if_pos hds1] at hs3
      clear hds1
      go_wp2_with fail
      go_region_held3 (HC N B g.x.T C s.me s.seq s.sil s.now p) (first | with_reducible exact hS | with_reducible assumption) (fail)
      rename_i hHx
      clear hHx hS
      generalize World.drew _ = W2 at hP2 hE2 hbb n2 ⊢
      obtain ⟨i0, hi, hz0, hz1, hz2⟩ := info_parts info_tx
      have ha2 := n2.ac
      have hbs := n2.base
      obtain ⟨_, _, _, _, _, _, _, p7, _, _, _, p11⟩ := PB.cell hP2
      have c5 := ha2.blk.cell.2.2.2.2.2.1
      have haT := fun o => (ha2.alloc o).blk.cell.2.2.2.2.2.1
      have hpT := fun o => (PB.cell (PB.alloc hP2 o)).2.2.2.2.2.2.2.1
      have hqT := fun o => (PB.cell (PB.alloc hP2 o)).2.2.2.2.2.2.2.2.2.2.2
      have hrow := fun o => (ha2.alloc o).drew.cam
      have hcf := fun W => cells_tx W p.frm p.pay
      have hbA : Hid (∀ o : Obj, B + 1 ≤ (W2.alloc o).drew.heap.size) := by
        intro o
        show B + 1 ≤ (W2.alloc o).heap.size
        rw [World.size_alloc]
        omega
      have HX : Hid (∀ v7 w7, w7.ownsRow (B + 1) 56 2 v7 (s.cms.length + 1) (FrC s.cms ++ FrC [(p.frm, p.pay)]) → (W2.alloc (.cells #[.int .u32 p.frm, .string p.pay] 56)).drew.grownBy w7 g.a.cam.ownBlock → (w7.cell? ⟨B, 5, none⟩ = some g.a.cam ∧ w7.frozen? ⟨B, 5, none⟩ = false) ∧ NdP N B g s s2 TL w (w7.setCell ⟨B, 5, none⟩ v7)) := by
        intro v7 w7 ho7 hg7
        rw [← FrC_append, show s.cms.length + 1 = (s.cms ++ [(p.frm, p.pay)]).length by simp] at ho7
        have hb3 : Below W2.heap.size W2 (W2.alloc (.cells #[.int .u32 p.frm, .string p.pay] 56)).drew := ((Below.refl _ _).alloc (Nat.le_refl _) _).drew
        have n3 := n2.later hb3
        obtain ⟨hB7, hm, hf⟩ := n3.ac.comes ho7 hg7
        obtain ⟨q1, q2⟩ := n3.act (s' := s2) (by rw [← hs3]; exact hm) hf (by rw [← hs3]; exact ⟨rfl, rfl, rfl, rfl, rfl, rfl, rfl, rfl, rfl, rfl, rfl, rfl, rfl, rfl, rfl⟩) (by rw [← hs3]; exact n3.now) (by rw [← hs3]; exact n3.rep)
        exact ⟨⟨hB7.cell.2.2.2.2.2.1, hB7.free 5⟩, NdP.pre (hbb.trans (hb3.mono hbb.size)) ⟨_, q1, q2, rfl⟩⟩
      clear hs3 n2 ha2 hP2 hE2 hbb
      go_wp2_with fail
      go_region_law (refine step_append_at rfl (.tmp 52) (.tmp 58) 49 rfl (B + 1) 56 i0 (.agg #[.int .u32 0, .string ⟨#[]⟩]) 2 24 Tryz.underlying49 hi hz0 hz1 hz2 rfl (by decide) g.a.cam s.cms.length (FrC s.cms) (by simp [Act.eval]) (hrow _) ⟨_, 0, none⟩ 1 1 (FrC [(p.frm, p.pay)]) (by simp [Act.eval]) rfl (hcf _) (one_fr _) (by unfold maxLen; omega) (by omega) (hbA.out _) ?_; intro v7 w7 ho7 hg7 _; obtain ⟨⟨g1, g2⟩, hm⟩ := HX.out _ _ ho7 hg7; obtain ⟨ao7, cc7, rfl, _⟩ := row_form ho7)
      all_goals
        generalize World.setCell _ _ _ = w8 at hm ⊢
        clear g1 g2 hg7 ho7
        go_wp2
        go_returns
        exact ⟨rfl, hm⟩
    · have hbe : (p.dest == s.me) = false := by simpa using hds1
      rw [if_neg hds1] at hs3
      go_wp2_with fail
      go_region_held3 (HC N B g.x.T C s.me s.seq s.sil s.now p) (first | with_reducible exact hS | with_reducible assumption) (fail)
      rename_i hHx
      clear hHx hS
      generalize World.drew _ = W2 at hP2 hE2 hbb n2 ⊢
      have ua2 : Up B (Ft N g s) (Ft N g s) w W2 := .below hbb
      by_cases htl : p.ttl = 1
      · have hbt : (p.ttl == 1) = true := by simpa using htl
        rw [if_pos htl] at hs3
        clear htl
        have HX := hide (N_drop n2 4 hdl)
        rw [hs3] at HX
        obtain ⟨p0, p1, p2, p3, p4, p5, p6, p7, p8, p9, p10, p11⟩ := PB.cell hP2
        clear hP2 hE2
        go_wp2_with fail
        refine Calls.mono HX.out ?_
        rintro e w9 ⟨rfl, hN⟩
        obtain ⟨g9, n9, u9, t9⟩ := hN
        go_wp2
        go_returns
        exact ⟨rfl, g9, n9, ua2.trans u9, t9.out.trans rfl⟩
      · have hbt : (p.ttl == 1) = false := by simpa using htl
        rw [if_neg htl] at hs3
        cases fd
        · rw [if_neg (by simp)] at hs3
          obtain ⟨s4, hs4⟩ : ∃ z, s.drop 3 = z := ⟨_, rfl⟩
          have HD := hide (N_drop n2 3 hdl)
          rw [hs4] at HD
          have h4 : Hid (s4.now = s.now ∧ s4.me = s.me ∧ s4.seq = s.seq ∧ s4.sil = s.sil ∧ s4.frs = s.frs ∧ ({ s4 with A := modL s4.A p.dest St.growF } : St).loseOne fr p.dest = s2) := by
            show _ ∧ _
            rw [← hs4]
            exact ⟨rfl, rfl, rfl, rfl, rfl, hs3⟩
          clear hs3 hs4
          obtain ⟨p0, p1, p2, p3, p4, p5, p6, p7, p8, p9, p10, p11⟩ := PB.cell hP2
          go_wp2_with fail
          refine Calls.mono HD.out ?_
          rintro e w4 ⟨rfl, hN⟩
          obtain ⟨g4, n4, u4, t4⟩ := hN
          obtain ⟨hP4, hCn4⟩ := u4.keepP hP2 hCn
          obtain ⟨hE4, hEn4⟩ := u4.keepR hE2 hEn
          have ua4 := ua2.trans u4
          clear p0 p1 p2 p3 p4 p5 p6 p7 p8 p9 p10 p11 HD hP2 hE2 n2 u4 ua2
          have HB := hide (N_grow n4.drew p.dest hde)
          have hS : HR N B g4.x.T C E s4.me s4.seq s4.sil s4.now p y (.slice ao y.bef.length c) w4.drew := HR.drewAt n4 hP4 hE4 rfl rfl rfl rfl rfl
          go_wp2_with fail
          go_region_held3 (HR N B g4.x.T C E s4.me s4.seq s4.sil s4.now p y (.slice ao y.bef.length c)) (first | with_reducible exact hS | with_reducible assumption) ((go_at_call 169; refine (HB.out).mono ?_; rintro e w5 ⟨rfl, hN⟩; obtain ⟨g5, n5, u5, t5⟩ := hN; obtain ⟨hP5, hCn5⟩ := u5.keepP hP4 hCn4; obtain ⟨hE5, hEn5⟩ := u5.keepR hE4 hEn4; have hk5 : HR N B g4.x.T C E s4.me s4.seq s4.sil s4.now p y (.slice ao y.bef.length c) w5 := HR.at n5 hP5 hE5 t5.out rfl rfl rfl rfl))
          clear hS hk5
          rename_i hHx
          clear hHx
          clear HB
          have ua5 := (ua4.trans (.below (Below.refl _ _).drew)).trans u5
          obtain ⟨s5, hs5⟩ : ∃ z, ({ s4 with A := modL s4.A p.dest St.growF } : St) = z := ⟨_, rfl⟩
          have h5 : Hid (s5.frs = s.frs ∧ s5.loseOne fr p.dest = s2) := by
            show _ ∧ _
            rw [← hs5]
            exact ⟨h4.out.2.2.2.2.1, h4.out.2.2.2.2.2⟩
          rw [hs5] at n5 ua5
          have HX := hide (N_loseOne n5 fr p.dest hde (by rw [h5.out.1]; exact hfl))
          rw [h5.out.2] at HX
          obtain ⟨p0, p1, p2, p3, p4, p5, p6, p7, p8, p9, p10, p11⟩ := PB.cell hP5
          clear hs5 h5 h4 hP5 hP4 hE4 hE5 n4
          go_wp2_with fail
          refine Calls.mono HX.out ?_
          rintro e w9 ⟨rfl, hN⟩
          obtain ⟨g9, n9, u9, t9⟩ := hN
          go_wp2
          go_returns
          exact ⟨rfl, g9, n9, ua5.trans u9, t9.out.trans (t5.out.trans t4.out)⟩
        · rw [if_pos rfl] at hs3
          have hyn := hyok rfl
          have hwt : wrap64 (p.ttl - 1) = p.ttl - 1 := by
            have := hq.ttl
            unfold wrap64
            omega
          have hbC : w.heap.size ≤ C := by rw [hCC.out]; exact Nat.le_refl _
          have hP4 : PB ({ p with ttl := p.ttl - 1 } : Pkt) C (W2.setCell ⟨C, 0, none⟩ (.int .i64 (p.ttl - 1))) := hP2.setTtl (p.ttl - 1)
          have hb4 : Below w.heap.size w (W2.setCell ⟨C, 0, none⟩ (.int .i64 (p.ttl - 1))) := hbb.setCell (p := ⟨C, 0, none⟩) hbC _
          have hE4 : LnB E y (.slice ao y.bef.length c) (W2.setCell ⟨C, 0, none⟩ (.int .i64 (p.ttl - 1))) := (Below.heap_setCell _ _ _ _ (Ne.symm hCE)).trans hE2
          have n4 := n.later hb4
          have hwf : ({ p with ttl := p.ttl - 1 } : Pkt).Wf := by
            have h1 := hq.ttl
            refine { hp with ttl0 := ?_, ttl1 := ?_ } <;> (dsimp only; omega)
          have HS := hide (N_send n4 y.next ({ p with ttl := p.ttl - 1 } : Pkt) hwf [] (hL.below hb4) hfl)
          obtain ⟨s6, hs6⟩ : ∃ z, s.send y.next ({ p with ttl := p.ttl - 1 } : Pkt) [] = z := ⟨_, rfl⟩
          rw [hs6] at HS
          dsimp only [Pkt.val] at HS
          have h6 : Hid (s6.now = s.now ∧ { s6 with A := useL (useL s6.A p.dest (s.now + 3000)) p.frm (s.now + 3000) } = s2) := by
            show _ ∧ _
            rw [← hs6]
            exact ⟨rfl, hs3⟩
          clear hs3 hs6
          obtain ⟨p0, p1, p2, p3, p4, p5, p6, p7, p8, p9, p10, p11⟩ := PB.cell hP2
          have f0 := PB.free hP2 0
          clear n2 hP2 hE2 hbb ua2
          go_upto_region 11 with (fail)
          generalize World.setCell _ _ _ = W4 at hP4 hb4 hE4 n4 HS ⊢
          clear p0 p1 p2 p3 p4 p5 p6 p7 p8 p9 p10 p11 f0
          obtain ⟨p0, p1, p2, p3, p4, p5, p6, p7, p8, p9, p10, p11⟩ := PB.cell hP4
          obtain ⟨e0, e1, e2, e3, e4, e5, e6⟩ := hE4.cell
          dsimp only at p0 p1 p2 p3 p4 p5 p6 p7 p8 p9 p10 p11
          clear htl
          go_wp2_with fail
          refine Calls.mono HS.out ?_
          rintro e w6 ⟨rfl, hN⟩
          obtain ⟨g6, n6, u6, t6⟩ := hN
          clear p0 p1 p2 p3 p4 p5 p6 p7 p8 p9 p10 p11 e0 e1 e2 e3 e4 e5 e6 HS
          obtain ⟨hP6, hCn6⟩ := u6.keepP hP4 hCn
          obtain ⟨hE6, hEn6⟩ := u6.keepR hE4 hEn
          have ua6 : Up B (Ft N g s) (Ft N g6 s6) w w6 := (Up.below hb4).trans u6
          clear hP4 hE4 n4 u6 hb4
          have hn6 : 0 ≤ s6.now ∧ s6.now ≤ 4611686018427387904 := by rw [h6.out.1]; exact hnow
          have HV : Hid (∀ t, t = s6.now + 3000 → Calls Tryz.prog 81 #[.pointer (some ⟨g6.x.T, 0, none⟩), .int .u32 p.dest, .int .u64 t] w6.drew fun r w' => r = .returned (.tuple #[]) ∧ NdP N B g6 s6 { s6 with A := useL s6.A p.dest (s6.now + 3000) } TL w6.drew w') := by
            rintro _ rfl
            exact N_use n6.drew p.dest (s6.now + 3000) hde (by unfold U64; omega)
          have hS : HR N B g6.x.T C E s6.me s6.seq s6.sil s6.now ({ p with ttl := p.ttl - 1 } : Pkt) y (.slice ao y.bef.length c) w6.drew := HR.drewAt n6 hP6 hE6 rfl rfl rfl rfl rfl
          go_wp2_with fail
          go_region_held3 (HR N B g6.x.T C E s6.me s6.seq s6.sil s6.now ({ p with ttl := p.ttl - 1 } : Pkt) y (.slice ao y.bef.length c)) (first | with_reducible exact hS | with_reducible assumption) ((go_at_call 81; refine (HV.out _ (by first | rfl | exact u64add hn6 (by decide))).mono ?_; rintro e w7 ⟨rfl, hN⟩; obtain ⟨g7, n7, u7, t7⟩ := hN; obtain ⟨hP7, hCn7⟩ := u7.keepP hP6 hCn6; obtain ⟨hE7, hEn7⟩ := u7.keepR hE6 hEn6; have hk7 : HR N B g6.x.T C E s6.me s6.seq s6.sil s6.now ({ p with ttl := p.ttl - 1 } : Pkt) y (.slice ao y.bef.length c) w7 := HR.at n7 hP7 hE7 t7.out rfl rfl rfl rfl))
          clear hS hk7
          rename_i hHx
          clear hHx
          clear HV
          have ua7 := (ua6.trans (.below (Below.refl _ _).drew)).trans u7
          obtain ⟨s7, hs7⟩ : ∃ z, ({ s6 with A := useL s6.A p.dest (s6.now + 3000) } : St) = z := ⟨_, rfl⟩
          have h7 : Hid (s7.now = s.now ∧ { s7 with A := useL s7.A p.frm (s7.now + 3000) } = s2) := by
            show _ ∧ _
            rw [← hs7]
            have e := h6.out.2
            rw [← h6.out.1] at e
            exact ⟨h6.out.1, e⟩
          rw [hs7] at n7 ua7 hCn7 hEn7
          clear hs7 ua6 u7 n6 hP6 hE6 hCn6 hEn6 h6
          have hn7 : 0 ≤ s7.now ∧ s7.now ≤ 4611686018427387904 := by rw [h7.out.1]; exact hnow
          have HV : Hid (∀ t, t = s7.now + 3000 → Calls Tryz.prog 81 #[.pointer (some ⟨g7.x.T, 0, none⟩), .int .u32 p.frm, .int .u64 t] w7.drew fun r w' => r = .returned (.tuple #[]) ∧ NdP N B g7 s7 s2 TL w7.drew w') := by
            rintro _ rfl
            have := N_use n7.drew p.frm (s7.now + 3000) hfr (by unfold U64; omega)
            rw [h7.out.2] at this
            exact this
          have hsm : Hid (s2.me = s7.me ∧ s2.seq = s7.seq ∧ s2.sil = s7.sil ∧ s2.now = s7.now) := by
            show _ ∧ _
            rw [← h7.out.2]
            exact ⟨rfl, rfl, rfl, rfl⟩
          have hS : HR N B g7.x.T C E s7.me s7.seq s7.sil s7.now ({ p with ttl := p.ttl - 1 } : Pkt) y (.slice ao y.bef.length c) w7.drew := HR.drewAt n7 hP7 hE7 rfl rfl rfl rfl rfl
          go_wp2_with fail
          go_region_held3 (HR N B g7.x.T C E s7.me s7.seq s7.sil s7.now ({ p with ttl := p.ttl - 1 } : Pkt) y (.slice ao y.bef.length c)) (first | with_reducible exact hS | with_reducible assumption) ((go_at_call 81; refine (HV.out _ (by first | rfl | exact u64add hn7 (by decide))).mono ?_; rintro e w8 ⟨rfl, hN⟩; obtain ⟨g8, n8, u8, t8⟩ := hN; obtain ⟨hP8, hCn8⟩ := u8.keepP hP7 hCn7; obtain ⟨hE8, hEn8⟩ := u8.keepR hE7 hEn7; have hk8 : HR N B g7.x.T C E s7.me s7.seq s7.sil s7.now ({ p with ttl := p.ttl - 1 } : Pkt) y (.slice ao y.bef.length c) w8 := HR.at n8 hP8 hE8 t8.out hsm.out.1 hsm.out.2.1 hsm.out.2.2.1 hsm.out.2.2.2))
          clear hS hk8
          rename_i hHx
          clear hHx
          have ua8 := (ua7.trans (.below (Below.refl _ _).drew)).trans u8
          have ta : g8.x.T = g.x.T := t8.out.trans (t7.out.trans t6.out)
          clear hP7 hE7 hP8 hE8
          go_wp2
          go_returns
          exact ⟨rfl, g8, n8, ua8, ta⟩
end Go.Proofs.YtakaadcpaeiccabGreat
