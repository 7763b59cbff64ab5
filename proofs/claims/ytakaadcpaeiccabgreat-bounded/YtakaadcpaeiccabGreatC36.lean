import Derived.Test.YtakaadcpaeiccabGreatC31
import Derived.Test.YtakaadcpaeiccabGreatC35
import Derived.Test.YtakaadcpaeiccabGreatProg
import Derived.Conc.MuLone
import Derived.KernelRfl
namespace Go.Proofs.YtakaadcpaeiccabGreat
open Go.RowKit Go.Maps

theorem q_offA (q : Int × Int) : offA (qBox q) := ⟨fun c e => (by cases e), fun c e => (by cases e), fun c e => (by cases e), fun c e => (by cases e), fun c e => (by cases e)⟩
theorem Up.keepQ {B D : Nat} {F F' : Nat → Prop} {q : Int × Int} {a b : World} (u : Up B F F' a b) (h : QB D q a) (hn : ¬ F D) : QB D q b ∧ ¬ F' D := u.keep h hn (q_offA q)
theorem QB.later {D : Nat} {q : Int × Int} {a b : World} (h : QB D q a) (hb : Below a.heap.size a b) : QB D q b := (hb.block _ (some_lt h)).trans h
/-- The cells that a walk reads with a question at hand. -/
@[reducible] def HQ (N B T C Q : Nat) (me seq sil now : Int) (p : Pkt) (W : World) : Prop :=
  HC N B T C me seq sil now p W ∧ W.cell? ⟨Q, 0, none⟩ = some (.int .u32 p.frm) ∧ W.cell? ⟨Q, 1, none⟩ = some (.int .u32 p.id)
theorem HQ.at {N B C Q T : Nat} {g : NdG} {s : St} {TL : List Hp.Tm} {p : Pkt} {W : World} {me seq sil now : Int} (n : Nd N B g s TL W) (h : PB p C W) (hQ : QB Q (p.frm, p.id) W) (t : g.x.T = T) (h1 : s.me = me) (h2 : s.seq = seq) (h3 : s.sil = sil) (h4 : s.now = now) : HQ N B T C Q me seq sil now p W := ⟨HC.at n h t h1 h2 h3 h4, hQ.cell⟩
theorem HQ.drewAt {N B C Q T : Nat} {g : NdG} {s : St} {TL : List Hp.Tm} {p : Pkt} {W : World} {me seq sil now : Int} (n : Nd N B g s TL W) (h : PB p C W) (hQ : QB Q (p.frm, p.id) W) (t : g.x.T = T) (h1 : s.me = me) (h2 : s.seq = seq) (h3 : s.sil = sil) (h4 : s.now = now) : HQ N B T C Q me seq sil now p W.drew := HQ.at n.drew h hQ t h1 h2 h3 h4
theorem seenAdd_til {E : List Mm} {q : Int × Int} {now t : Int} (h : ∀ e ∈ E, e.til ≤ now + 1280) {e : Mm} (he : e ∈ seenAdd E q (now + 1280) t) : e.til ≤ now + 1280 := by
  have hp : ∀ e ∈ seenPut E q (now + 1280) t, e.til ≤ now + 1280 := by
    intro e he
    unfold seenPut at he
    rcases List.mem_append.1 he with he | he
    · exact h e (List.mem_filter.1 he).1
    · rw [List.mem_singleton] at he
      subst he
      exact Int.le_refl _
  unfold seenAdd at he
  split at he
  · exact hp e (List.mem_of_mem_tail he)
  · exact hp e he
/-- What a walk asks of the plain numbers of a node within a call. -/
structure St.Fine (s : St) : Prop where
  me : U32 s.me
  seq : U32 s.seq
  now : 0 ≤ s.now ∧ s.now ≤ 4611686018427387904
  mem : ∀ e ∈ s.mem, e.til ≤ s.now + 1280
  frs : s.frs.length ≤ 900000
  drs : s.drs.length ≤ 900000
  cms : s.cms.length ≤ 900000

set_option maxRecDepth 100000 in
set_option maxHeartbeats 8000000 in
theorem N_hearRequest {N B : Nat} {g : NdG} {s : St} {TL : List Hp.Tm} {w : World} (n : Nd N B g s TL w) (hF : s.Fine) (htn : s.tn ≤ 4000000000000000000) (fr : Int) (hfrm : U32 fr) (p : Pkt) (hq : p.Hd) (hL : HoldsL w p []) :
    Calls Tryz.prog 130 #[.pointer (some ⟨N, 0, none⟩), .pointer (some ⟨B, 0, none⟩), .int .u32 fr, p.val] w fun e w' => e = .returned (.tuple #[]) ∧ NdP N B g s (s.hearRequest fr p) TL w w' := by
  have hp := hq.wf
  have hfl : s.frs.length ≤ 1000000 := by have := hF.frs; omega
  have hdl : s.drs.length ≤ 1000000 := by have := hF.drs; omega
  obtain ⟨hid, hde, hds, hfr, hfs, _⟩ := hp.num
  have hb0 : Below w.heap.size w ((w.alloc p.box).alloc (qBox (p.frm, p.id))) := ((Below.refl _ _).alloc (Nat.le_refl _) _).alloc (by simp) _
  have hP0 : PB p w.heap.size ((w.alloc p.box).alloc (qBox (p.frm, p.id))) := (((Below.refl _ (w.alloc p.box)).alloc (Nat.le_refl _) _).block _ (by simp)).trans (PB.new p w)
  have hQ0 : QB (w.heap.size + 1) (p.frm, p.id) ((w.alloc p.box).alloc (qBox (p.frm, p.id))) := by
    have := heap_alloc_new (w.alloc p.box) (qBox (p.frm, p.id))
    rw [World.size_alloc] at this
    exact this
  have n0 := n.later hb0
  obtain ⟨s2, hans⟩ : ∃ s2, s.hearRequest fr p = s2 := ⟨_, rfl⟩
  rw [hans]
  replace hans := hide hans
  dsimp only [Pkt.box, qBox] at hb0 n0
  unfold PB at hP0
  unfold QB at hQ0
  dsimp only [Pkt.box, qBox] at hP0 hQ0
  go_enter Tryz.func130, Tryz.ntmps130
  go_upto_region 2 with (fail)
  generalize World.alloc (World.alloc _ _) _ = W1 at hb0 hP0 hQ0 n0 ⊢
  have hCn := n.new (k := w.heap.size) (Nat.le_refl _)
  have hQn := n.new (k := w.heap.size + 1) (Nat.le_succ _)
  generalize w.heap.size + 1 = Q at hQ0 hQn ⊢
  generalize hCC : w.heap.size = C at hP0 hCn ⊢
  replace hCC := hide hCC
  have hs2 := hans.out
  unfold St.hearRequest at hs2
  have HH := hide fun W5 (h5 : Below W1.heap.size W1 W5) => N_seenHas (n0.later h5) (p.frm, p.id) ⟨hfr, hid⟩ s.now hF.now.1
  obtain ⟨cb, hcb⟩ : ∃ cb, (decide (p.frm = s.me) || seenHas s.mem (p.frm, p.id) s.now) = cb := ⟨_, rfl⟩
  replace hcb := hide hcb
  go_cut [33] from 16 to 32 (fun bv W => bv = .bool cb ∧ Below W1.heap.size W1 W)
  case first =>
    obtain ⟨⟨⟨m0, m1, m2, m3, m4⟩, p0, p1, p2, p3, p4, p5, p6, p7, p8, p9, p10, p11⟩, q0, q1⟩ := HQ.at n0 hP0 hQ0 rfl rfl rfl rfl rfl
    have hbd : Below W1.heap.size W1 W1.drew := (Below.refl _ _).drew
    by_cases hse : p.frm = s.me
    · have hbe : (p.frm == s.me) = true := by simpa using hse
      obtain rfl : true = cb := by rw [← hcb.out, decide_eq_true hse]; rfl
      clear hse HH p0 p1 p2 p3 p5 p6 p8 p9 p10 p11 m1 m2 m3
      go_region
      all_goals
        go_wp2_with fail
        go_meet
        exact ⟨rfl, hbd⟩
    · have hbe : (p.frm == s.me) = false := by simpa using hse
      have hd : seenHas s.mem (p.frm, p.id) s.now = cb := by rw [← hcb.out, decide_eq_false hse]; rfl
      rw [hd] at HH
      dsimp only [encQ] at HH
      clear hd hse p0 p1 p2 p3 p5 p6 p8 p9 p10 p11 m1 m2 m3
      go_region_law (first | (go_simp; go_at_call 160; refine (HH.out _ hbd).mono ?_; rintro e w2 ⟨rfl, hb2⟩))
      all_goals
        go_wp2_with fail
        go_meet
        exact ⟨rfl, hbd.trans (hb2.mono hbd.size)⟩
  case rest =>
    obtain ⟨rfl, hb2⟩ := hcut
    have hnow := hF.now
    have n2 := n0.later hb2
    have hP2 : PB p C wc := PB.below hP0 hb2
    have hQ2 : QB Q (p.frm, p.id) wc := QB.later hQ0 hb2
    have ua0 : Up B (Ft N g s) (Ft N g s) w wc := .below (hb0.trans (hb2.mono hb0.size))
    have hLq := hL.below (hb0.trans (hb2.mono hb0.size))
    clear HH hP0 hQ0 n0 hb0 hb2 hans hCC
    cases cb
    · have hcb' := hcb.out
      simp only [Bool.or_eq_false_iff, decide_eq_false_iff_not] at hcb'
      rw [if_neg (by rintro (h | h); exact hcb'.1 h; rw [hcb'.2] at h; cases h)] at hs2
      clear hcb hcb'
      have HA : Hid (∀ t, t = s.now + 1280 → Calls Tryz.prog 156 #[.pointer (some ⟨N, 8, none⟩), .agg #[.int .u32 p.frm, .int .u32 p.id], .int .u64 t] wc.drew fun e w' => e = .returned (.tuple #[]) ∧ NdP N B g s { s with mem := seenAdd s.mem (p.frm, p.id) (s.now + 1280) s.tn, tn := s.tn + 1 } TL wc.drew w') := by
        rintro _ rfl
        exact N_seenAdd n2.drew (p.frm, p.id) ⟨hfr, hid⟩ (s.now + 1280) (by omega) hF.mem (by omega)
      have hS : HQ N B g.x.T C Q s.me s.seq s.sil s.now p wc.drew := HQ.drewAt n2 hP2 hQ2 rfl rfl rfl rfl rfl
      go_wp2_with fail
      go_region_held3 (HQ N B g.x.T C Q s.me s.seq s.sil s.now p) (first | with_reducible exact hS | with_reducible assumption) ((go_at_call 156; refine (HA.out _ (by first | rfl | exact u64add hnow (by decide))).mono ?_; rintro e w3 ⟨rfl, hN⟩; obtain ⟨g3, n3, u3, t3⟩ := hN; obtain ⟨hP3, hCn3⟩ := u3.keepP hP2 hCn; obtain ⟨hQ3, hQn3⟩ := u3.keepQ hQ2 hQn; have hk3 : HQ N B g.x.T C Q s.me s.seq s.sil s.now p w3 := HQ.at n3 hP3 hQ3 t3.out rfl rfl rfl rfl))
      clear hS hk3
      rename_i hHx
      clear hHx
      have ua3 := (ua0.trans (.below (Below.refl _ _).drew)).trans u3
      obtain ⟨s1, hs1⟩ : ∃ s1, ({ s with mem := seenAdd s.mem (p.frm, p.id) (s.now + 1280) s.tn, tn := s.tn + 1 } : St) = s1 := ⟨_, rfl⟩
      have hF1 : s1.Fine := by
        rw [← hs1]
        refine ⟨hF.me, hF.seq, hF.now, fun e he => ?_, hF.frs, hF.drs, hF.cms⟩
        exact seenAdd_til hF.mem he
      have hLq3 : HoldsL w3 p [] := hLq.nil
      rw [hs1] at n3 ua3 hCn3 hQn3 hs2
      clear hs1 HA ua0 hLq n2 hQ2 hP2
      unfold St.learn at hs2
      have hnow1 := hF1.now
      obtain ⟨u, hu⟩ : ∃ u, updL s1.me s1.A p.frm p.fseq (St.far p.hops) fr (s1.now + 3000) = u := ⟨_, rfl⟩
      have HU : Hid (∀ t, t = s1.now + 3000 → Calls Tryz.prog 161 #[.pointer (some ⟨g3.x.T, 0, none⟩), .int .u32 p.frm, .int .u32 p.fseq, .int .i64 (St.far p.hops), .int .u32 fr, .int .u64 t] w3.drew fun r w' => r = .returned (.int .i64 u.2) ∧ NdP N B g3 s1 { s1 with A := u.1 } TL w3.drew w') := by
        rintro _ rfl
        have := N_update n3.drew p.frm p.fseq (St.far p.hops) fr (s1.now + 3000) hfr hfs (by have := hq.hops; unfold I64 St.far; omega) hfrm (by unfold U64; omega)
        rw [hu] at this
        exact this
      rw [hu] at hs2
      obtain ⟨A2, E2⟩ := u
      dsimp only at hs2 HU
      clear hu
      have hS : HQ N B g3.x.T C Q s1.me s1.seq s1.sil s1.now p w3.drew := HQ.drewAt n3 hP3 hQ3 rfl rfl rfl rfl rfl
      go_wp2_with fail
      go_region_held3 (HQ N B g3.x.T C Q s1.me s1.seq s1.sil s1.now p) (first | with_reducible exact hS | with_reducible assumption) (first
        | (go_at_call 162; refine (far_any p.hops hq.hops _).mono ?_; rintro e w3f ⟨rfl, rfl⟩)
        | (go_at_call 161; refine (HU.out _ (by first | rfl | exact u64add hnow1 (by decide))).mono ?_; rintro e w4 ⟨rfl, hN⟩; obtain ⟨g4, n4, u4, t4⟩ := hN; obtain ⟨hP4, hCn4⟩ := u4.keepP hP3 hCn3; obtain ⟨hQ4, hQn4⟩ := u4.keepQ hQ3 hQn3; have hk4 : HQ N B g3.x.T C Q s1.me s1.seq s1.sil s1.now p w4 := HQ.at n4 hP4 hQ4 t4.out rfl rfl rfl rfl))
      clear hS
      rename_i hHx
      clear hHx
      have ua4 := (ua3.trans (.below (Below.refl _ _).drew)).trans u4
      have t43 : Hid (g4.x.T = g.x.T) := t4.out.trans t3.out
      obtain ⟨s4, hs4⟩ : ∃ s4, ({ s1 with A := A2 } : St) = s4 := ⟨_, rfl⟩
      have hF4 : s4.Fine := by
        rw [← hs4]
        exact ⟨hF1.me, hF1.seq, hF1.now, hF1.mem, hF1.frs, hF1.drs, hF1.cms⟩
      have hLq4 : HoldsL w4 p [] := hLq3.nil
      have hn41 : Hid (s4.now = s1.now) := by show _ = _; rw [← hs4]
      have hA4 : ({ s1 with A := useL A2 p.frm (s1.now + 3000) } : St) = { s4 with A := useL s4.A p.frm (s1.now + 3000) } := by rw [← hs4]
      rw [hs4, hA4] at hs2
      rw [hs4] at n4 ua4 hCn4 hQn4
      clear hs4 hA4 ua3 u4 hk4 n3 hP3 hQ3 hCn3 hQn3 HU hLq3 u3 hF1
      by_cases h4 : E2 = 4
      · subst h4
        rw [if_pos rfl] at hs2
        have HX := hide (N_drop n4 2 (by have := hF4.drs; omega))
        rw [hs2] at HX
        go_wp2_with fail
        refine Calls.mono HX.out ?_
        rintro e w9 ⟨rfl, hN⟩
        obtain ⟨g9, n9, u9, t9⟩ := hN
        go_wp2
        go_returns
        exact ⟨rfl, g9, n9, ua4.trans u9, t9.out.trans t43⟩
      · have b4 : (E2 == 4) = false := by simpa using h4
        rw [if_neg h4] at hs2
        by_cases h3 : E2 = 3
        · subst h3
          rw [if_pos rfl] at hs2
          have HV : Hid (∀ t, t = s1.now + 3000 → Calls Tryz.prog 81 #[.pointer (some ⟨g4.x.T, 0, none⟩), .int .u32 p.frm, .int .u64 t] w4.drew fun r w' => r = .returned (.tuple #[]) ∧ NdP N B g4 s4 { s4 with A := useL s4.A p.frm (s1.now + 3000) } TL w4.drew w') := by
            rintro _ rfl
            exact N_use n4.drew p.frm (s1.now + 3000) hfr (by unfold U64; omega)
          have hS : HQ N B g4.x.T C Q s4.me s4.seq s4.sil s1.now p w4.drew := HQ.drewAt n4 hP4 hQ4 rfl rfl rfl rfl hn41.out
          go_wp2_with fail
          go_region_held3 (HQ N B g4.x.T C Q s4.me s4.seq s4.sil s1.now p) (first | with_reducible exact hS | with_reducible assumption) ((go_at_call 81; refine (HV.out _ (by first | rfl | exact u64add hnow1 (by decide))).mono ?_; rintro e w6 ⟨rfl, hN⟩; obtain ⟨g6, n6, u6, t6⟩ := hN; obtain ⟨hP6, hCn6⟩ := u6.keepP hP4 hCn4; obtain ⟨hQ6, hQn6⟩ := u6.keepQ hQ4 hQn4; have hk6 : HQ N B g4.x.T C Q s4.me s4.seq s4.sil s1.now p w6 := HQ.at n6 hP6 hQ6 t6.out rfl rfl rfl hn41.out))
          clear hS hk6
          rename_i hHx
          clear hHx
          have ua6 := (ua4.trans (.below (Below.refl _ _).drew)).trans u6
          have t63 : Hid (g6.x.T = g.x.T) := t6.out.trans t43.out
          obtain ⟨s6, hs6⟩ : ∃ s6, ({ s4 with A := useL s4.A p.frm (s1.now + 3000) } : St) = s6 := ⟨_, rfl⟩
          have hF6 : s6.Fine := by
            rw [← hs6]
            exact ⟨hF4.me, hF4.seq, hF4.now, hF4.mem, hF4.frs, hF4.drs, hF4.cms⟩
          have hLq : HoldsL w6 p [] := hLq4.nil
          rw [hs6] at n6 ua6 hCn6 hs2
          clear hs6 ua4 u6 n4 hP4 hQ4 hCn4 hQn4 hQ6 hQn6 HV hLq4 hF4 b4
          obtain ⟨⟨y, fd⟩, hy⟩ : ∃ r, findL s6.A p.dest s6.now = r := ⟨_, rfl⟩
          have HF := hide (N_findP n6 p.dest s6.now hde hy)
          go_wp2_with fail
          go_cut [9, 10] from 82 to 95 (FoundP y fd w6)
          case first =>
            have hS : HB N B g6.x.T C s6.me s6.seq s6.sil s6.now p w6 w6.drew := HB.drew (HB.mk' n6 hP6 (Below.refl _ _))
            have hkB := hide fun W5 h5 => HB.mk' (W := W5) n6 hP6 h5
            go_region_held3 (HB N B g6.x.T C s6.me s6.seq s6.sil s6.now p w6) (first | with_reducible exact hS | with_reducible assumption | (with_reducible apply HB.kSet7 hkB; assumption) | (with_reducible apply HB.kAlloc hkB; assumption) | (with_reducible apply HB.kAllocDrew hkB) | (with_reducible apply hkB.out; assumption)) ((go_at_call 79; refine (HF.out _ (And.right (by assumption))).mono ?_; rintro e w2 ⟨ao, c, rfl, hb2, hpr⟩; try ((with_reducible have hD := hpr zeroR (.slice none 0 0) (zero_new w6)); obtain ⟨d0, d1, d2, d3, d4, d5, d6⟩ := hD.cell; have q0 := hD.free 0; have q1 := hD.free 1; have q2 := hD.free 2; have q3 := hD.free 3; have q4 := hD.free 4; have q5 := hD.free 5; have q6 := hD.free 6; have hD' : Hid (LnB w6.heap.size zeroR (.slice none 0 0) w2) := hD; clear hD); clear hpr))
            all_goals
              go_wp2_with fail
              go_meet
              first | with_reducible exact found_alloc hb2 | with_reducible exact found_set hb2 hD'
          case rest =>
            obtain ⟨E, ao, c, rfl, rfl, hE, hEl, hb8⟩ := hcut
            have n8 := n6.later hb8
            have hP8 : PB p C wc := PB.below hP6 hb8
            have hL8 := hLq.below hb8
            have hyok : fd = true → y.Ok := fun h => by
              have := findL_ok n6.nn.cr.tb.ok p.dest s6.now
              rw [hy] at this
              rcases this with h1 | h1
              · exact h1
              · rw [h] at h1; cases h1
            unfold St.asked at hs2
            rw [hy] at hs2
            dsimp only at hs2
            have ua8 := ua6.trans (.below hb8)
            have hfl1 : s6.frs.length ≤ 1000000 := by have := hF6.frs; omega
            have hdl1 : s6.drs.length ≤ 1000000 := by have := hF6.drs; omega
            have hS : HC N B g6.x.T C s6.me s6.seq s6.sil s6.now p wc.drew := HC.drewOf n8 hP8
            have hE9 : LnB E y (.slice ao y.bef.length c) wc.drew := hE
            have n9 := n8.drew
            have hP9 : PB p C wc.drew := hP8
            have hL9 : HoldsL wc.drew p [] := hL8.below (Below.refl _ _).drew
            have ua9 := ua8.trans (.below (Below.refl _ _).drew)
            clear HF hP6 n6 hb8 ua6 hE n8 hP8 hL8 ua8
            by_cases hds1 : p.dest = s6.me
            · have hbe : (p.dest == s6.me) = true := by simpa using hds1
              rw [if_pos hds1] at hs2
              clear hds1
              go_wp2_with fail
              go_region_held3 (HC N B g6.x.T C s6.me s6.seq s6.sil s6.now p) (first | with_reducible exact hS | with_reducible assumption) (fail)
              rename_i hHx
              clear hHx hS
              generalize World.drew _ = W9 at n9 hP9 hL9 ua9 hE9 ⊢
              have HX := hide (N_answerSelf n9 p hq hF6.me hF6.seq hfl1 hdl1)
              rw [hs2] at HX
              dsimp only [Pkt.val] at HX
              obtain ⟨p0, p1, p2, p3, p4, p5, p6, p7, p8, p9, p10, p11⟩ := PB.cell hP9
              clear hP9
              go_wp2_with fail
              refine Calls.mono HX.out ?_
              rintro e w9 ⟨rfl, hN⟩
              obtain ⟨g9, n9, u9, t9⟩ := hN
              go_wp2
              go_returns
              exact ⟨rfl, g9, n9, ua9.trans u9, t9.out.trans t63.out⟩
            · have hbe : (p.dest == s6.me) = false := by simpa using hds1
              rw [if_neg hds1] at hs2
              go_wp2_with fail
              go_region_held3 (HC N B g6.x.T C s6.me s6.seq s6.sil s6.now p) (first | with_reducible exact hS | with_reducible assumption) (fail)
              rename_i hHx
              clear hHx hS
              generalize World.drew _ = W9 at n9 hP9 hL9 ua9 hE9 ⊢
              obtain ⟨p0, p1, p2, p3, p4, p5, p6, p7, p8, p9, p10, p11⟩ := PB.cell hP9
              obtain ⟨e0, e1, e2, e3, e4, e5, e6⟩ := hE9.cell
              clear hP9 hE9
              by_cases hfo : (fd && (p.unk || decide (y.seq ≥ p.dseq))) = true
              · rw [if_pos hfo] at hs2
                have hfd : fd = true := by revert hfo; cases fd <;> simp
                subst hfd
                have hyk := hyok rfl
                have HX := hide (N_answerOther n9 p hq y hyk ao y.bef.length c (by have := hF6.now; unfold U64; omega) hfl1 hdl1)
                rw [hs2] at HX
                dsimp only [Pkt.val, rtV] at HX
                cases hun : p.unk
                · rw [hun, Bool.true_and, Bool.false_or] at hfo
                  have hge : decide (p.dseq ≤ y.seq) = true := hfo
                  rw [hun] at HX p3
                  go_wp2_with fail
                  refine Calls.mono HX.out ?_
                  rintro e w9 ⟨rfl, hN⟩
                  obtain ⟨g9, n9, u9, t9⟩ := hN
                  go_wp2
                  go_returns
                  exact ⟨rfl, g9, n9, ua9.trans u9, t9.out.trans t63.out⟩
                · rw [hun] at HX p3
                  go_wp2_with fail
                  refine Calls.mono HX.out ?_
                  rintro e w9 ⟨rfl, hN⟩
                  obtain ⟨g9, n9, u9, t9⟩ := hN
                  go_wp2
                  go_returns
                  exact ⟨rfl, g9, n9, ua9.trans u9, t9.out.trans t63.out⟩
              · rw [if_neg hfo] at hs2
                have hfo' : fd = false ∨ (fd = true ∧ p.unk = false ∧ decide (p.dseq ≤ y.seq) = false) := by
                  revert hfo
                  cases fd <;> cases p.unk <;> simp
                by_cases htl : p.ttl = 1
                · have hbt : (p.ttl == 1) = true := by simpa using htl
                  rw [if_pos htl] at hs2
                  clear htl
                  have HX := hide (N_drop n9 4 hdl1)
                  rw [hs2] at HX
                  rcases hfo' with rfl | ⟨rfl, hun, hge⟩
                  · 
                    go_wp2_with fail
                    refine Calls.mono HX.out ?_
                    rintro e w9 ⟨rfl, hN⟩
                    obtain ⟨g9, n9, u9, t9⟩ := hN
                    go_wp2
                    go_returns
                    exact ⟨rfl, g9, n9, ua9.trans u9, t9.out.trans t63.out⟩
                  · rw [hun] at p3
                    go_wp2_with fail
                    refine Calls.mono HX.out ?_
                    rintro e w9 ⟨rfl, hN⟩
                    obtain ⟨g9, n9, u9, t9⟩ := hN
                    go_wp2
                    go_returns
                    exact ⟨rfl, g9, n9, ua9.trans u9, t9.out.trans t63.out⟩
                · have hbt : (p.ttl == 1) = false := by simpa using htl
                  rw [if_neg htl] at hs2
                  have HX := hide (N_askOn n9 p hq hL9 hfl1)
                  rw [hs2] at HX
                  dsimp only [Pkt.val] at HX
                  rcases hfo' with rfl | ⟨rfl, hun, hge⟩
                  · 
                    go_wp2_with fail
                    refine Calls.mono HX.out ?_
                    rintro e w9 ⟨rfl, hN⟩
                    obtain ⟨g9, n9, u9, t9⟩ := hN
                    go_wp2
                    go_returns
                    exact ⟨rfl, g9, n9, ua9.trans u9, t9.out.trans t63.out⟩
                  · rw [hun] at HX p3
                    go_wp2_with fail
                    refine Calls.mono HX.out ?_
                    rintro e w9 ⟨rfl, hN⟩
                    obtain ⟨g9, n9, u9, t9⟩ := hN
                    go_wp2
                    go_returns
                    exact ⟨rfl, g9, n9, ua9.trans u9, t9.out.trans t63.out⟩
        · have b3 : (E2 == 3) = false := by simpa using h3
          rw [if_neg h3] at hs2
          have hLq := hLq4
          clear hQ4 hQn4 hLq4
          obtain ⟨⟨y, fd⟩, hy⟩ : ∃ r, findL s4.A p.dest s4.now = r := ⟨_, rfl⟩
          have HF := hide (N_findP n4 p.dest s4.now hde hy)
          go_wp2_with fail
          go_cut [9, 10] from 82 to 95 (FoundP y fd w4)
          case first =>
            have hS : HB N B g4.x.T C s4.me s4.seq s4.sil s4.now p w4 w4.drew := HB.drew (HB.mk' n4 hP4 (Below.refl _ _))
            have hkB := hide fun W5 h5 => HB.mk' (W := W5) n4 hP4 h5
            go_region_held3 (HB N B g4.x.T C s4.me s4.seq s4.sil s4.now p w4) (first | with_reducible exact hS | with_reducible assumption | (with_reducible apply HB.kSet7 hkB; assumption) | (with_reducible apply HB.kAlloc hkB; assumption) | (with_reducible apply HB.kAllocDrew hkB) | (with_reducible apply hkB.out; assumption)) ((go_at_call 79; refine (HF.out _ (And.right (by assumption))).mono ?_; rintro e w2 ⟨ao, c, rfl, hb2, hpr⟩; try ((with_reducible have hD := hpr zeroR (.slice none 0 0) (zero_new w4)); obtain ⟨d0, d1, d2, d3, d4, d5, d6⟩ := hD.cell; have q0 := hD.free 0; have q1 := hD.free 1; have q2 := hD.free 2; have q3 := hD.free 3; have q4 := hD.free 4; have q5 := hD.free 5; have q6 := hD.free 6; have hD' : Hid (LnB w4.heap.size zeroR (.slice none 0 0) w2) := hD; clear hD); clear hpr))
            all_goals
              go_wp2_with fail
              go_meet
              first | with_reducible exact found_alloc hb2 | with_reducible exact found_set hb2 hD'
          case rest =>
            obtain ⟨E, ao, c, rfl, rfl, hE, hEl, hb8⟩ := hcut
            have n8 := n4.later hb8
            have hP8 : PB p C wc := PB.below hP4 hb8
            have hL8 := hLq.below hb8
            have hyok : fd = true → y.Ok := fun h => by
              have := findL_ok n4.nn.cr.tb.ok p.dest s4.now
              rw [hy] at this
              rcases this with h1 | h1
              · exact h1
              · rw [h] at h1; cases h1
            unfold St.asked at hs2
            rw [hy] at hs2
            dsimp only at hs2
            have ua8 := ua4.trans (.below hb8)
            have hfl1 : s4.frs.length ≤ 1000000 := by have := hF4.frs; omega
            have hdl1 : s4.drs.length ≤ 1000000 := by have := hF4.drs; omega
            have hS : HC N B g4.x.T C s4.me s4.seq s4.sil s4.now p wc.drew := HC.drewOf n8 hP8
            have hE9 : LnB E y (.slice ao y.bef.length c) wc.drew := hE
            have n9 := n8.drew
            have hP9 : PB p C wc.drew := hP8
            have hL9 : HoldsL wc.drew p [] := hL8.below (Below.refl _ _).drew
            have ua9 := ua8.trans (.below (Below.refl _ _).drew)
            clear HF hP4 n4 hb8 ua4 hE n8 hP8 hL8 ua8
            by_cases hds1 : p.dest = s4.me
            · have hbe : (p.dest == s4.me) = true := by simpa using hds1
              rw [if_pos hds1] at hs2
              clear hds1
              go_wp2_with fail
              go_region_held3 (HC N B g4.x.T C s4.me s4.seq s4.sil s4.now p) (first | with_reducible exact hS | with_reducible assumption) (fail)
              rename_i hHx
              clear hHx hS
              generalize World.drew _ = W9 at n9 hP9 hL9 ua9 hE9 ⊢
              have HX := hide (N_answerSelf n9 p hq hF4.me hF4.seq hfl1 hdl1)
              rw [hs2] at HX
              dsimp only [Pkt.val] at HX
              obtain ⟨p0, p1, p2, p3, p4, p5, p6, p7, p8, p9, p10, p11⟩ := PB.cell hP9
              clear hP9
              go_wp2_with fail
              refine Calls.mono HX.out ?_
              rintro e w9 ⟨rfl, hN⟩
              obtain ⟨g9, n9, u9, t9⟩ := hN
              go_wp2
              go_returns
              exact ⟨rfl, g9, n9, ua9.trans u9, t9.out.trans t43.out⟩
            · have hbe : (p.dest == s4.me) = false := by simpa using hds1
              rw [if_neg hds1] at hs2
              go_wp2_with fail
              go_region_held3 (HC N B g4.x.T C s4.me s4.seq s4.sil s4.now p) (first | with_reducible exact hS | with_reducible assumption) (fail)
              rename_i hHx
              clear hHx hS
              generalize World.drew _ = W9 at n9 hP9 hL9 ua9 hE9 ⊢
              obtain ⟨p0, p1, p2, p3, p4, p5, p6, p7, p8, p9, p10, p11⟩ := PB.cell hP9
              obtain ⟨e0, e1, e2, e3, e4, e5, e6⟩ := hE9.cell
              clear hP9 hE9
              by_cases hfo : (fd && (p.unk || decide (y.seq ≥ p.dseq))) = true
              · rw [if_pos hfo] at hs2
                have hfd : fd = true := by revert hfo; cases fd <;> simp
                subst hfd
                have hyk := hyok rfl
                have HX := hide (N_answerOther n9 p hq y hyk ao y.bef.length c (by have := hF4.now; unfold U64; omega) hfl1 hdl1)
                rw [hs2] at HX
                dsimp only [Pkt.val, rtV] at HX
                cases hun : p.unk
                · rw [hun, Bool.true_and, Bool.false_or] at hfo
                  have hge : decide (p.dseq ≤ y.seq) = true := hfo
                  rw [hun] at HX p3
                  go_wp2_with fail
                  refine Calls.mono HX.out ?_
                  rintro e w9 ⟨rfl, hN⟩
                  obtain ⟨g9, n9, u9, t9⟩ := hN
                  go_wp2
                  go_returns
                  exact ⟨rfl, g9, n9, ua9.trans u9, t9.out.trans t43.out⟩
                · rw [hun] at HX p3
                  go_wp2_with fail
                  refine Calls.mono HX.out ?_
                  rintro e w9 ⟨rfl, hN⟩
                  obtain ⟨g9, n9, u9, t9⟩ := hN
                  go_wp2
                  go_returns
                  exact ⟨rfl, g9, n9, ua9.trans u9, t9.out.trans t43.out⟩
              · rw [if_neg hfo] at hs2
                have hfo' : fd = false ∨ (fd = true ∧ p.unk = false ∧ decide (p.dseq ≤ y.seq) = false) := by
                  revert hfo
                  cases fd <;> cases p.unk <;> simp
                by_cases htl : p.ttl = 1
                · have hbt : (p.ttl == 1) = true := by simpa using htl
                  rw [if_pos htl] at hs2
                  clear htl
                  have HX := hide (N_drop n9 4 hdl1)
                  rw [hs2] at HX
                  rcases hfo' with rfl | ⟨rfl, hun, hge⟩
                  · 
                    go_wp2_with fail
                    refine Calls.mono HX.out ?_
                    rintro e w9 ⟨rfl, hN⟩
                    obtain ⟨g9, n9, u9, t9⟩ := hN
                    go_wp2
                    go_returns
                    exact ⟨rfl, g9, n9, ua9.trans u9, t9.out.trans t43.out⟩
                  · rw [hun] at p3
                    go_wp2_with fail
                    refine Calls.mono HX.out ?_
                    rintro e w9 ⟨rfl, hN⟩
                    obtain ⟨g9, n9, u9, t9⟩ := hN
                    go_wp2
                    go_returns
                    exact ⟨rfl, g9, n9, ua9.trans u9, t9.out.trans t43.out⟩
                · have hbt : (p.ttl == 1) = false := by simpa using htl
                  rw [if_neg htl] at hs2
                  have HX := hide (N_askOn n9 p hq hL9 hfl1)
                  rw [hs2] at HX
                  dsimp only [Pkt.val] at HX
                  rcases hfo' with rfl | ⟨rfl, hun, hge⟩
                  · 
                    go_wp2_with fail
                    refine Calls.mono HX.out ?_
                    rintro e w9 ⟨rfl, hN⟩
                    obtain ⟨g9, n9, u9, t9⟩ := hN
                    go_wp2
                    go_returns
                    exact ⟨rfl, g9, n9, ua9.trans u9, t9.out.trans t43.out⟩
                  · rw [hun] at HX p3
                    go_wp2_with fail
                    refine Calls.mono HX.out ?_
                    rintro e w9 ⟨rfl, hN⟩
                    obtain ⟨g9, n9, u9, t9⟩ := hN
                    go_wp2
                    go_returns
                    exact ⟨rfl, g9, n9, ua9.trans u9, t9.out.trans t43.out⟩
    · have hcb' := hcb.out
      simp only [Bool.or_eq_true, decide_eq_true_eq] at hcb'
      rw [if_pos hcb'] at hs2
      subst hs2
      have HD := hide (N_drop n2 1 hdl)
      clear hcb hcb' hP2 hQ2
      go_wp2_with fail
      refine Calls.mono HD.out ?_
      rintro e w3 ⟨rfl, hN⟩
      go_wp2
      go_returns
      obtain ⟨g9, n9, u9, t9⟩ := hN
      exact ⟨rfl, g9, n9, ua0.trans u9, t9⟩
end Go.Proofs.YtakaadcpaeiccabGreat

namespace Go.Proofs.YtakaadcpaeiccabGreat

/-! What holds of a node between two calls, and within one. -/
structure St.Inv (k : Int) (s : St) : Prop where
  me : U32 s.me
  seq : U32 s.seq
  now : 0 ≤ s.now
  mem : ∀ e ∈ s.mem, e.til ≤ s.now + 1280
  dom : s.Dom
  cnt : 0 ≤ s.cnt ∧ s.cnt ≤ 24
  tn : s.tn ≤ 10000 * k
  tl : 0 ≤ s.tl ∧ s.tl ≤ 10000 * k
  lk : s.lk = 0
  pcl : s.pc.length ≤ 5
  pcs : s.pc.Pairwise (· ≤ ·)
  pcn : ∀ t ∈ s.pc, t ≤ s.now
  qid : ∀ q ∈ s.Q, q.id ≤ s.tl
  bd : RBd s.nws
  nwl : s.nws.length ≤ 100000
  frl : s.frs.length ≤ 100000
  cml : s.cms.length ≤ 100000
  drl : s.drs.length ≤ 100000
structure St.Mid (k : Int) (j : Nat) (s : St) : Prop where
  me : U32 s.me
  seq : U32 s.seq
  now : 0 ≤ s.now ∧ s.now ≤ 4611686018427387904
  mem : ∀ e ∈ s.mem, e.til ≤ s.now + 1280
  dom : s.Dom
  cnt : 0 ≤ s.cnt ∧ s.cnt ≤ 24 + 10 * j
  nws : s.nws.length ≤ 10 * j
  bd : RBd s.nws
  frs : s.frs.length ≤ 10 * j
  drs : s.drs.length ≤ 10 * j
  cms : s.cms.length ≤ 10 * j
  tn : s.tn ≤ 10000 * k + j
  tl : 0 ≤ s.tl ∧ s.tl ≤ 10000 * k + j
  pcl : s.pc.length ≤ 5
  pcs : s.pc.Pairwise (· ≤ ·)
  pcn : ∀ t ∈ s.pc, t ≤ s.now
  qid : ∀ q ∈ s.Q, q.id ≤ s.tl
theorem St.Mid.fine {k : Int} {j : Nat} {s : St} (h : s.Mid k j) (hj : j ≤ 50000) : s.Fine :=
  ⟨h.me, h.seq, h.now, h.mem, by have := h.frs; omega, by have := h.drs; omega, by have := h.cms; omega⟩
theorem write_len (s : St) (hA : s.A.length ≤ 8) : s.write.nws.length ≤ s.nws.length + 9 ∧ 0 ≤ s.write.cnt - s.cnt ∧ s.write.cnt ≤ s.cnt + 9 := by
  have h := newsP_len s.seq s.own s.f s.A
  refine ⟨?_, ?_, ?_⟩
  · show (s.nws ++ _).length ≤ _
    rw [List.length_append]
    omega
  · show 0 ≤ s.cnt + _ - s.cnt
    omega
  · show s.cnt + _ ≤ s.cnt + 9
    omega
theorem mid_write {k : Int} {j : Nat} {s : St} (h : s.Mid k j) (hA : ∀ y ∈ s.A, y.Ok) (hl : s.A.length ≤ 8) : s.write.Mid k (j + 1) := by
  obtain ⟨w1, w2, w3⟩ := write_len s hl
  have c := h.cnt
  exact ⟨h.me, h.seq, h.now, h.mem, dom_write h.dom hA h.seq, by omega, by have := h.nws; omega, RBd_append h.bd (newsP_bd h.seq s.f hA), by have := h.frs; show s.frs.length ≤ _; omega, by have := h.drs; show s.drs.length ≤ _; omega, by have := h.cms; show s.cms.length ≤ _; omega, by have := h.tn; show s.tn ≤ _; omega, by have := h.tl; show 0 ≤ s.tl ∧ s.tl ≤ _; omega, h.pcl, h.pcs, h.pcn, h.qid⟩
theorem expL_ok {A : List Rt} (hA : ∀ y ∈ A, y.Ok) (now : Int) : ∀ y ∈ expL A now, y.Ok := by
  intro y hy
  obtain ⟨z, hz, rfl⟩ := List.mem_map.1 hy
  unfold expF
  split
  · exact endR_ok (hA z hz) (by simp [U32])
  · exact hA z hz
theorem mid_begin {k : Int} {s : St} (h : s.Inv k) (hA : ∀ y ∈ s.A, y.Ok) (hl : s.A.length ≤ 8) (now : Int) (hn : s.now ≤ now ∧ now ≤ 4611686018427387904) : (s.begin now).Mid k 1 := by
  have h0 : ({ s with now := now, A := expL s.A now, nws := [], frs := [], cms := [], drs := [], rep := false } : St).Mid k 0 :=
    ⟨h.me, h.seq, ⟨by have := h.now; dsimp only; omega, hn.2⟩, fun e he => by have := h.mem e he; dsimp only; omega, ⟨h.dom.mb, fun d hd => by
      obtain ⟨y, hy, rfl⟩ := h.dom.on d hd
      exact ⟨expF now y, List.mem_map.2 ⟨y, hy, rfl⟩, expF_dest now y⟩, h.dom.own⟩, by have := h.cnt; dsimp only; omega, Nat.le_refl _, fun _ h => (by cases h), Nat.le_refl _, Nat.le_refl _, Nat.le_refl _, by have := h.tn; dsimp only; omega, by have := h.tl; dsimp only; omega, h.pcl, h.pcs, fun t ht => by have := h.pcn t ht; dsimp only; omega, h.qid⟩
  exact mid_write h0 (expL_ok hA now) (by dsimp only [expL]; rw [List.length_map]; exact hl)
theorem mid_eff {k : Int} {j i : Nat} {s s' : St} (h : s.Mid k j) (e : Eff i s s') : s'.Mid k (j + i) := by
  refine ⟨by rw [e.me]; exact h.me, e.seq h.seq, by rw [e.now]; exact h.now, e.mem h.mem, ⟨by rw [e.f]; exact h.dom.mb, fun d hd => ?_, by rw [e.own]; exact h.dom.own⟩, by rw [e.cnt]; have := h.cnt; omega, by rw [e.nws]; have := h.nws; omega, by rw [e.nws]; exact h.bd, by have := e.frs; have := h.frs; omega, by have := e.drs; have := h.drs; omega, by have := e.cms; have := h.cms; omega, by have := e.tn; have := h.tn; omega, by rw [e.tl]; have := h.tl; omega, by rw [e.pc]; exact h.pcl, by rw [e.pc]; exact h.pcs, by rw [e.pc, e.now]; exact h.pcn, fun q hq => by rw [e.tl]; exact h.qid q (e.qs q hq)⟩
  rw [e.f] at hd
  obtain ⟨y, hy, rfl⟩ := h.dom.on d hd
  obtain ⟨z, hz, e⟩ := e.sub y hy
  exact ⟨z, hz, e⟩
structure FinS (s s' : St) : Prop where
  me : s'.me = s.me
  seq : s'.seq = s.seq
  sil : s'.sil = s.sil
  lreq : s'.lreq = s.lreq
  ldat : s'.ldat = s.ldat
  A : s'.A = s.A
  mem : s'.mem = s.mem
  tn : s'.tn = s.tn
  Q : s'.Q = s.Q
  tl : s'.tl = s.tl
  pc : s'.pc = s.pc
  now : s'.now = s.now
  frs : s'.frs = s.frs
  cms : s'.cms = s.cms
  drs : s'.drs = s.drs
  lk : s'.lk = s.lk
theorem finish_same (s : St) : FinS s s.finish := by
  unfold St.finish
  split <;> exact ⟨rfl, rfl, rfl, rfl, rfl, rfl, rfl, rfl, rfl, rfl, rfl, rfl, rfl, rfl, rfl, rfl⟩
theorem cmp_len (s : St) : s.cmp.length = s.A.length + 1 := by
  simp only [St.cmp, ownP, othP, List.length_append, List.length_map, List.length_cons, List.length_nil]
  omega
theorem cmp_bd {s : St} (h1 : U32 s.own) (h2 : MB s.f) (hA : ∀ y ∈ s.A, y.Ok) : RBd s.cmp := by
  intro x hx
  simp only [St.cmp, ownP, othP, List.mem_append, List.mem_singleton, List.mem_map] at hx
  rcases hx with rfl | ⟨a, ha, rfl⟩
  · unfold U32 at h1
    dsimp only
    omega
  · obtain ⟨y, hy, rfl⟩ := ha
    have h2' := (hA y hy).dest
    have h3 := h2.getD y.dest
    unfold U32 at h2' h3
    dsimp only
    omega
theorem inv_finish {k : Int} {j : Nat} {s : St} (h : s.Mid k j) (hj : j ≤ 9000) (hlk : s.lk = 0) (hA : ∀ y ∈ s.A, y.Ok) (hl : s.A.length ≤ 8) : s.finish.Inv (k + 1) := by
  have e := finish_same s
  have hw := mid_write h hA hl
  have hdm : s.finish.Dom := by
    have := hw.dom
    unfold St.finish
    split
    · exact ⟨this.mb, this.on, this.own⟩
    · exact this
  have hcn : 0 ≤ s.finish.cnt ∧ s.finish.cnt ≤ 24 := by
    unfold St.finish
    split
    · have := cmp_len s.write
      have h8 : s.write.A.length ≤ 8 := hl
      dsimp only
      omega
    · have := hw.cnt
      omega
  have hbd : RBd s.finish.nws ∧ s.finish.nws.length ≤ 100000 := by
    unfold St.finish
    split
    · have h8 : s.write.A.length ≤ 8 := hl
      refine ⟨cmp_bd hw.dom.own hw.dom.mb hA, ?_⟩
      have := cmp_len s.write
      dsimp only
      omega
    · have := hw.nws
      exact ⟨hw.bd, by omega⟩
  exact ⟨by rw [e.me]; exact h.me, by rw [e.seq]; exact h.seq, by rw [e.now]; exact h.now.1, by rw [e.mem, e.now]; exact h.mem, hdm, hcn, by rw [e.tn]; have := h.tn; omega, by rw [e.tl]; have := h.tl; omega, by rw [e.lk]; exact hlk, by rw [e.pc]; exact h.pcl, by rw [e.pc]; exact h.pcs, by rw [e.pc, e.now]; exact h.pcn, by rw [e.Q, e.tl]; exact h.qid, hbd.1, hbd.2, by rw [e.frs]; have := h.frs; omega, by rw [e.cms]; have := h.cms; omega, by rw [e.drs]; have := h.drs; omega⟩

/-- The timers are those of the searches. -/
def TmOk (s : St) (TL : List Hp.Tm) : Prop := TL.Perm (s.Q.map tmOf)
theorem filter_perm {Q : List Sr} (hn : Q.Pairwise fun a b => a.dest ≠ b.dest) {q : Sr} (hq : q ∈ Q) : Q.Perm (q :: Q.filter fun z => !decide (z.dest = q.dest)) := by
  induction Q with
  | nil => cases hq
  | cons a Q ih =>
    rw [List.pairwise_cons] at hn
    rcases List.mem_cons.1 hq with rfl | h
    · have h1 : Q.filter (fun z => !decide (z.dest = q.dest)) = Q := List.filter_eq_self.2 fun z hz => by simpa using (hn.1 z hz).symm
      simp [h1]
    · have h1 := ih hn.2 h
      have h2 : a.dest ≠ q.dest := hn.1 q h
      rw [List.filter_cons_of_pos (by simpa using h2)]
      exact (h1.cons a).trans (.swap _ _ _)
theorem tmE_ok {d : Int} {s s2 : St} {TL TL' : List Hp.Tm} (h : TmE d s TL s2 TL') (ht : TmOk s TL) (hid : TL.Pairwise fun a b => a.2.1 ≠ b.2.1) (hn : s.Q.Pairwise fun a b => a.dest ≠ b.dest) : TmOk s2 TL' := by
  unfold TmOk at ht ⊢
  rcases h with ⟨rfl, e⟩ | ⟨q, hq, htk, e⟩
  · rw [e]; exact ht
  · obtain ⟨hqm, rfl⟩ := srOf_some hq
    have hqt : tmOf q ∈ TL := ht.mem_iff.2 (List.mem_map.2 ⟨q, hqm, rfl⟩)
    rcases htk with ⟨x, hx, hp⟩ | ⟨hno, _⟩
    · have hxT : x ∈ TL := hp.mem_iff.1 List.mem_cons_self
      have hxe : x = tmOf q := by
        refine Classical.byContradiction fun hne => ?_
        have : ∀ (L : List Hp.Tm), L.Pairwise (fun a b => a.2.1 ≠ b.2.1) → x ∈ L → tmOf q ∈ L → False := by
          intro L
          induction L with
          | nil => intro _ h; cases h
          | cons a L ih =>
            intro hp h1 h2
            rw [List.pairwise_cons] at hp
            rcases List.mem_cons.1 h1 with k1 | k1
            · rcases List.mem_cons.1 h2 with k2 | k2
              · exact hne (k1.trans k2.symm)
              · exact hp.1 _ k2 (k1 ▸ hx)
            · rcases List.mem_cons.1 h2 with k2 | k2
              · exact hp.1 _ k1 ((k2 ▸ rfl : a.2.1 = (tmOf q).2.1).trans hx.symm)
              · exact ih hp.2 k1 k2
        exact this TL hid hxT hqt
      subst hxe
      rw [e]
      have h1 := (hp.trans ht).trans ((filter_perm hn hqm).map tmOf)
      rw [List.map_cons] at h1
      exact (List.perm_cons _).1 h1
    · exact absurd rfl (hno _ hqt)
end Go.Proofs.YtakaadcpaeiccabGreat

namespace Go.Proofs.YtakaadcpaeiccabGreat

/-- The numbers under which this program holds the library's lock. -/
abbrev muLink : Go.Conc.Locks.MuLink := { lock := 49, unlock := 50, ilock := 74, iunlock := 75, lockSlow := 109, unlockSlow := 112, disable := 105, enable := 107, acquire := 108, relMerge := 110, cas32 := 106, add32 := 111, tMutex := 127, tIMutex := 125, tPMutex := 168, tPIMutex := 215, tPI32 := 217, tUP := 219, tNoCopy := 123, tU32 := 34 }
theorem muLib : Go.Conc.Locks.MuLib Tryz.prog muLink :=
  ⟨Tryz.func49, Tryz.func50, Tryz.func74, Tryz.func75, Tryz.func105, Tryz.func107, Tryz.func108, Tryz.func110, Tryz.func106, Tryz.func111, Tryz.underlying125, Tryz.runUnderlying125, Tryz.sizeOf125, Tryz.isAgg125, Tryz.zeroValue125, Tryz.underlying127, Tryz.runUnderlying127, Tryz.sizeOf127, Tryz.isAgg127, Tryz.zeroValue127, Tryz.underlying168, Tryz.runUnderlying168, Tryz.sizeOf168, Tryz.isAgg168, Tryz.zeroValue168, Tryz.underlying215, Tryz.runUnderlying215, Tryz.sizeOf215, Tryz.isAgg215, Tryz.zeroValue215, Tryz.underlying217, Tryz.runUnderlying217, Tryz.sizeOf217, Tryz.isAgg217, Tryz.zeroValue217, Tryz.underlying219, Tryz.runUnderlying219, Tryz.sizeOf219, Tryz.isAgg219, Tryz.zeroValue219, Tryz.underlying123, Tryz.runUnderlying123, Tryz.sizeOf123, Tryz.isAgg123, Tryz.zeroValue123, Tryz.underlying21, Tryz.runUnderlying21, Tryz.sizeOf21, Tryz.isAgg21, Tryz.zeroValue21, (by kernel_rfl)⟩
end Go.Proofs.YtakaadcpaeiccabGreat
