import Derived.Test.YtakaadcpaeiccabGreatC40
import Derived.Deep.RegionWith
namespace Go.Proofs.YtakaadcpaeiccabGreat
open Go.RowKit Go.Maps

/-! Rated. -/
theorem info_ak : (Tryz.prog.info? 65).map (fun i => (i.zero, i.size, i.bytes)) = some (some (.agg #[.int .u32 0, .int .u64 0, .bool false]), 3, 24) := by kernel_rfl

set_option maxRecDepth 100000 in
set_option maxHeartbeats 8000000 in
theorem Rated_any (ao : Option Addr) (n c : Nat) (L : List (Int × Int × Bool)) (hn : L.length = n) (hb : ∀ x ∈ L, U32 x.1 ∧ U64 x.2.1) (w : World) (hL : HoldsC w ao (AkC L)) :
    Calls Tryz.prog 7 #[.slice ao n c] w fun e w' => e = .returned (.bool true) ∧ Below w.heap.size w w' := by
  obtain ⟨i0, hi, hz0, hz1, hz2⟩ := info_parts info_ak
  obtain ⟨i1, ji, jz0, jz1, jz2⟩ := info_parts info_fr
  obtain ⟨i2, ki, kz0, kz1, kz2⟩ := info_parts info_u64
  have HN := hide (N_NewNode 1 0 ⟨by decide, by decide⟩ (by decide) (.slice none 0 0) [] w ⟨fun x hx => (by cases hx), .inl ⟨rfl, rfl⟩⟩ (by simp) (by rw [jl_nil]; exact fun x hx => (by cases hx)) (by rw [jl_nil]; simp) ⟨by decide, by decide⟩)
  obtain ⟨hr0, hi0, hq0, hnow0, hf0, hc0, hd0⟩ := new_start
  obtain ⟨s0, hs0⟩ : ∃ z, St.new 1 [] 0 = z := ⟨_, rfl⟩
  rw [hs0] at HN hr0 hi0 hq0 hnow0 hf0 hc0 hd0
  clear hs0
  have hp0 : s0.Pos := fun q hq => by rw [hq0] at hq; cases hq
  replace hr0 := hide hr0
  replace hi0 := hide hi0
  replace hq0 := hide hq0
  replace hnow0 := hide hnow0
  replace hp0 := hide hp0
  go_enter Tryz.func7, Tryz.ntmps7
  go_wp2_with fail
  refine Calls.mono HN.out ?_
  rintro e w1 ⟨N, g, frm, cam, drp, rfl, nn, r1, r2, r3, hb1, hlow⟩
  clear HN
  obtain ⟨af, kf, rfl, _⟩ := row_form r1
  obtain ⟨ac, kc, rfl, _⟩ := row_form r2
  obtain ⟨ad, kd, rfl, _⟩ := row_form r3
  clear r1 r2 r3
  simp only [outV]
  rw [hf0, hc0, hd0]
  generalize s0.jrn = jj
  generalize s0.rep = rr
  have hbA : Below w1.heap.size w1 (w1.alloc (.cells #[.string jj, .bool rr, .slice af 0 kf, .slice ac 0 kc, .slice ad 0 kd] 52)) := (Below.refl _ _).alloc (Nat.le_refl _) _
  have nn2 := nn.later hbA
  have hb2 := hb1.trans (hbA.mono hb1.size)
  simp only [List.length_nil]
  go_upto_region 2 with (fail)
  clear hbA
  generalize World.alloc _ _ = W2 at nn2 hb2 ⊢
  by_cases h4 : 4096 < n
  · have e1 : decide (4096 < (n : Int)) = true := decide_eq_true (by omega)
    clear nn nn2 hlow hL
    go_wp2
    go_ret
    exact ⟨rfl, hb2⟩
  have e1 : decide (4096 < (n : Int)) = false := decide_eq_false (by omega)
  have hbB : Below W2.heap.size W2 (W2.alloc (.cells #[.int .u32 2, .int .u64 0, .bool false] 65)) := (Below.refl _ _).alloc (Nat.le_refl _) _
  have hb3 := hb2.trans (hbB.mono hb2.size)
  have nn3 := nn2.later hbB
  have hsrc := ((hL.below hb2).below hbB).src Tryz.underlying60 (size := 3) (n := n) c (by rw [AkC_length, hn]) (by decide) (AkC_one L)
  have ho0 : (W2.alloc (.cells #[.int .u32 2, .int .u64 0, .bool false] 65)).ownsRow W2.heap.size 65 3 (.slice (some ⟨W2.heap.size, 0, none⟩) 1 1) 1 (AkC [(2, 0, false)]) :=
    ⟨rfl, .inr ⟨W2.heap.size, 1, _, rfl, Nat.le_refl _, heap_alloc_new W2 _, Nat.le_refl _, by decide, rfl, rfl⟩⟩
  have hlt2 : ∀ k, Ft N g s0 k → k < W2.heap.size := fun k hk => nn2.lt hk
  have hwW2 := hb2.size
  clear nn nn2 hb2 hL
  go_wp2_with (at_builtin; refine wpList_append_own_src _ rfl _ _ 60 60 rfl W2.heap.size 65 i0 (.agg #[.int .u32 0, .int .u64 0, .bool false]) 3 24 Tryz.underlying60 hi hz0 hz1 hz2 rfl (.slice (some ⟨W2.heap.size, 0, none⟩) 1 1) 1 (AkC [(2, 0, false)]) rfl ho0 (by simp) _ n (AkC L) rfl hsrc ?c1 ?c2 ?c3 ?_)
  case c1 => unfold maxLen; omega
  case c2 => omega
  case c3 => simp
  intro v1 W4 ho1 hg1 hv1
  rw [← AkC_append, show ([(2, 0, false)] ++ L : List (Int × Int × Bool)) = (2, 0, false) :: L from rfl, Nat.add_comm] at ho1
  have hb1' : ∀ x ∈ ((2, 0, false) :: L : List (Int × Int × Bool)), U32 x.1 ∧ U64 x.2.1 := by
    intro x hx
    rcases List.mem_cons.1 hx with rfl | hx
    · exact ⟨⟨by decide, by decide⟩, by unfold U64; decide⟩
    · exact hb x hx
  have hn2 : ((2, 0, false) :: L : List (Int × Int × Bool)).length = n + 1 := by rw [List.length_cons, hn]
  have hfst : ((2, 0, false) :: L : List (Int × Int × Bool))[0]? = some (2, 0, false) := rfl
  generalize ((2, 0, false) :: L : List (Int × Int × Bool)) = L' at ho1 hb1' hn2 hfst
  obtain ⟨g1, cap1, rfl, hgw⟩ := row_shape ho1 hv1
  have hL1 := hide (HoldsC.ofRow ho1)
  obtain ⟨co, hobj⟩ := row_obj ho1 (k := g1) rfl
  have hQ0 : RQ N w g s0 [] 1 g1 (.cells co 65 (0, 0)) [] (.slice none 0 0) W4 :=
    ⟨nn3.kept fun k hk => hg1.block k (nn3.lt hk) (fun e => by have e2 : k = W2.heap.size := Option.some.inj e; have := hlt2 _ hk; omega), by unfold TmOk; rw [hq0.out]; exact List.Perm.refl _, hi0.out, hp0.out, ⟨rfl, .inl ⟨rfl, rfl⟩⟩, fun k hk => (by cases hk), hobj, fun hf => by have := hlt2 _ hf; omega, fun c e => (by cases e), hlow, hb3.grown hg1 (by have := hb3.size; simpa using this) (fun k e => by have e2 : W2.heap.size = k := Option.some.inj e; omega)⟩
  replace hQ0 := hide hQ0
  replace hobj := hide hobj
  clear hsrc ho0 ho1 hg1 hv1 nn3 hb3 hbB hlt2 hlow hb1 hgw hn hb
  have hN0 : Hid (RN 0 0 s0 []) := ⟨Int.le_refl _, by simp, by rw [hnow0.out]; exact Int.le_refl _, Nat.zero_le _, by rw [hq0.out]; exact Nat.le_refl _, fun _ => ⟨rfl, hq0.out⟩, fun h => absurd h (Nat.lt_irrefl _), fun t h => (by cases h)⟩
  go_wp2_with fail
  go_loopw [6, 7, 8, 9] (fun sv nv lv iv wr => ∃ (k : Nat) (g' : NdG) (s : St) (TL : List Hp.Tm) (ts : List Int) (nw : Int), k ≤ n + 1 ∧ iv = .int .i64 k ∧ nv = .int .u64 nw ∧ lv = .int .u32 (1 + (ts.length : Int)) ∧ Hid (RQ N w g' s TL (1 + 2 * k) g1 (.cells co 65 (0, 0)) ts sv wr) ∧ Hid (Rtd (1 + (ts.length : Int)) ts s) ∧ Hid (RN k nw s ts)) (fun _ _ _ iv _ => n + 1 - (intOf iv).toNat)
  case atStart => exact ⟨0, g, s0, [], [], 0, Nat.zero_le _, rfl, rfl, rfl, hQ0, hr0, hN0⟩
  case round =>
    clear hQ0 hr0 hN0
    obtain ⟨k, g', s, TL, ts, nw, hk, rfl, rfl, rfl, hq, hr, hnum⟩ := hrel
    by_cases hlt : k < n + 1
    · have hki : (k : Int) < ((n : Int) + 1) := by omega
      obtain ⟨⟨d, wt, tk⟩, hx⟩ : ∃ x, L'[k]? = some x := ⟨_, List.getElem?_eq_getElem (by omega)⟩
      have hbx := hb1' _ (List.mem_of_getElem? hx)
      dsimp only at hbx
      obtain ⟨gc0, gc1, gc2⟩ := AkC_get hx
      have hLc : Hid (∀ W : World, W.heap[g1]? = some (.cells co 65 (0, 0)) → W.cell? ⟨g1, k * 3, none⟩ = some (.int .u32 d) ∧ W.cell? ⟨g1, k * 3 + 1, none⟩ = some (.int .u64 wt) ∧ W.cell? ⟨g1, k * 3 + 2, none⟩ = some (.bool tk)) := fun W hW => by
        have hW' := hL1.out.blk hobj.out hW
        have c0 := hW'.one rfl gc0
        have c1 := hW'.one rfl gc1
        have c2 := hW'.one rfl gc2
        rw [Nat.zero_add] at c0 c1 c2
        exact ⟨c0, c1, c2⟩
      obtain ⟨c0, c1, c2⟩ := hLc.out wr hq.out.lb
      obtain ⟨now, hnw, now0, now1⟩ := wait5 hbx.2 ⟨hnum.out.n0, by have := hnum.out.n1; omega⟩
      replace hnw := hide hnw
      have hkf : Hid (k = 0 → d = 2 ∧ tk = false) := by
        show _ → _
        rintro rfl
        rw [hfst] at hx
        cases hx
        exact ⟨rfl, rfl⟩
      clear gc0 gc1 gc2 hx
      go_wp2_with fail
      rw [hnw.out]
      have HT := hide (N_Tick hq.out.nn hq.out.inv ⟨by omega, by omega⟩ hq.out.tm hq.out.pos now ⟨by have := hnum.out.tim; omega, by have := hnum.out.n1; omega⟩)
      have htk := hide (hr.out.tck (by omega) (by have := hnum.out.len; omega) (fun q hq' => ⟨(hq.out.nn.rs.sr.ok q hq').dest, (hq.out.nn.rs.sr.ok q hq').ttl⟩) hq.out.nn.rs.sr.len now)
      have hQ2 := tck_Q s now hr.out.A
      have hp2 := hide (pos_tck hq.out.pos hq.out.inv.tl.1 now)
      have hz2 := hide (fun h : s.Q = [] => tck_Qnil h now)
      obtain ⟨s2, hs2⟩ : ∃ z, s.tck now = z := ⟨_, rfl⟩
      rw [hs2] at HT htk hQ2 hp2 hz2
      clear hs2 c0 c1 c2
      refine Calls.mono HT.out ?_
      rintro e w2 ⟨o, rfl, hI2, g2, TL2, frm, cam, drp, rfl, nn2, tm2, r1, r2, r3, fx2, sub2⟩
      obtain ⟨cc, hc5, hr2, hfl, hout, hnw2⟩ := htk.out
      replace hfl := hide hfl
      replace hnw2 := hide hnw2
      have hq2 := hq.out.turn nn2 tm2 hI2.out hp2.out fx2 sub2
      obtain ⟨af2, kf2, rfl, _⟩ := row_form r1
      obtain ⟨ac2, kc2, rfl, _⟩ := row_form r2
      obtain ⟨ad2, kd2, rfl, _⟩ := row_form r3
      have hCr : Hid (wr.heap.size ≤ w2.heap.size) := fx2.size
      clear r2 r3 HT htk hI2 nn2 tm2 fx2 sub2
      simp only [outV]
      generalize s2.jrn = j2
      generalize s2.rep = p2
      generalize s2.cms.length = lc2
      generalize s2.drs.length = ld2
      have hbA : Below w2.heap.size w2 (w2.alloc (.cells #[.string j2, .bool p2, .slice af2 s2.frs.length kf2, .slice ac2 lc2 kc2, .slice ad2 ld2 kd2] 52)) := (Below.refl _ _).alloc (Nat.le_refl _) _
      have hC := heap_alloc_new w2 (.cells #[.string j2, .bool p2, .slice af2 s2.frs.length kf2, .slice ac2 lc2 kc2, .slice ad2 ld2 kd2] 52)
      have r1' := step_append_kept r1 hbA
      have hq3 := hide (hq2.later hbA)
      have hCn : ¬ Ft N g2 s2 w2.heap.size := fun h => by have := hq2.nn.lt h; omega
      have hCw : w.heap.size ≤ w2.heap.size := hq2.below.size
      have hrw : Hid (w.heap.size ≤ wr.heap.size) := hq.out.below.size
      clear hq2 hbA r1
      go_upto_region 13 with (fail)
      generalize World.alloc _ _ = W3 at hC r1' hq3 ⊢
      generalize w2.heap.size = C at hC hCn hCw hCr ⊢
      obtain ⟨c0, c1, c2⟩ := hLc.out W3 hq3.out.lb
      replace hr2 := hide hr2
      replace hout := hide hout
      replace hq := hq
      go_upto_if 65 with (fail)
      clear c1 c2
      go_cut [] from 66 to 84 (fun W => ∃ g5 s5 TL5 F af kf x0 x1 x3 x4, RCut N w g1 (.cells co 65 (0, 0)) k now ts u6 C wr.heap.size W g5 s5 TL5 F af kf x0 x1 x3 x4)
      case first =>
        have hnum' := hnum.out
        have hk1 := hnum'.n1
        have hk2 := hnum'.len
        cases tk
        · by_cases hno : d = 1 ∨ d = 0
          · have hk0 : k ≠ 0 := fun e => by have := (hkf.out e).1; omega
            have HS := hide (N_SendNo hq3.out.nn hq3.out.inv.lk now d ⟨#[120]⟩ 2 (.inr ⟨by decide, by rw [hr2.out.me]; exact hno, rfl⟩))
            go_wp2_with fail
            refine Calls.mono HS.out ?_
            rintro e w4 ⟨rfl, nn4, fx4⟩
            have hq4 := hq3.out.turn nn4 hq3.out.tm hq3.out.inv hq3.out.pos fx4 (fun k h => .inl h)
            have hC4 := RQ.keep fx4 hC hCn
            have r4 := row_at (W' := w4) r1' fun k hk => fx4.block k (r1'.lt k hk).2 (fun hf => by
              obtain ⟨cs, hcs⟩ := row_obj r1' hk
              exact hq3.out.nn.notF hcs hf)
            have hbB : Below w4.heap.size w4 (w4.alloc (.cells #[.string ⟨#[]⟩, .bool false, .slice none 0 0, .slice none 0 0, .slice none 0 0] 52)) := (Below.refl _ _).alloc (Nat.le_refl _) _
            have hq5 := hq4.later hbB
            have hC5 := (hbB.block C (some_lt hC4)).trans hC4
            have r5 := step_append_kept r4 hbB
            have hmeet : Hid (RCut N w g1 (.cells co 65 (0, 0)) k now ts u6 C wr.heap.size (w4.alloc (.cells #[.string ⟨#[]⟩, .bool false, .slice none 0 0, .slice none 0 0, .slice none 0 0] 52)) g2 s2 TL2 s2.frs af2 kf2 (.string j2) (.bool p2) (.slice ac2 lc2 kc2) (.slice ad2 ld2 kd2)) :=
              ⟨hq5.up (by omega), by rw [hfl.out]; exact hr2.out, hout.out, by have := hfl.out; omega, hC5, hCn, r5, by rw [hnw2.out]; exact Int.le_refl _, by have := hnum'.ql; omega, fun e => absurd e hk0⟩
            clear HS nn4 fx4 hq4 hC4 r4 hbB hq5 hC5 r5 hC r1' hq3 c0
            go_wp2_with fail
            go_meet
            exact ⟨g2, s2, TL2, s2.frs, af2, kf2, _, _, _, _, hmeet.out⟩
          · have hsn := hide (hr2.out.snd (by omega) (by omega) now d ⟨#[120]⟩ hbx.1)
            have hsq := snd_Q s2 now d ⟨#[120]⟩ hr2.out.A
            have hps := hide (pos_snd hq3.out.pos hq3.out.inv.tl.1 now d ⟨#[120]⟩)
            have hf1 : Hid (k = 0 → (s2.snd now d ⟨#[120]⟩).frs.length = 1) := fun e => by
              obtain ⟨e1, e2⟩ := hnum'.beg e
              obtain ⟨z1, z2, _⟩ := hz2.out e2
              have hcc : cc = 0 := by have := hfl.out; rw [z2] at this; exact this.symm
              have h := hr2.out
              rw [e1, hcc] at h
              exact snd_first (last := 1 + (([] : List Int).length : Int) + ((0 : Nat) : Int)) h z1 now d ⟨#[120]⟩ (by have := hnum'.n0; omega)
            have HS := hide (N_Send hq3.out.nn hq3.out.inv ⟨by omega, by omega⟩ hq3.out.tm now d ⟨#[120]⟩ ⟨by rw [hnw2.out]; exact Int.le_refl _, by omega⟩ hbx.1 (by decide) (by rw [hr2.out.me]; omega) (by omega) (by have := hnum'.ql; omega))
            obtain ⟨s3, hs3⟩ : ∃ z, s2.snd now d ⟨#[120]⟩ = z := ⟨_, rfl⟩
            rw [hs3] at HS hsn hsq hps hf1
            clear hs3
            go_wp2_with fail
            refine Calls.mono HS.out ?_
            rintro e w4 ⟨o, rfl, hI4, g4, TL4, frm, cam, drp, rfl, nn4, tm4, q1, q2, q3, fx4, sub4⟩
            obtain ⟨c2', hc2', hr4, hfl4, hout4, hnw4⟩ := hsn.out
            replace hfl4 := hide hfl4
            replace hnw4 := hide hnw4
            replace hr4 := hide hr4
            replace hout4 := hide hout4
            have hq4 := hq3.out.turn nn4 tm4 hI4.out hps.out fx4 sub4
            have hC4 := RQ.keep fx4 hC hCn
            have hCn4 : ¬ Ft N g4 s3 C := fun h => (sub4 C h).elim hCn (fun h => by have := some_lt hC; omega)
            have r4 := row_at (W' := w4) r1' fun k hk => fx4.block k (r1'.lt k hk).2 (fun hf => by
              obtain ⟨cs, hcs⟩ := row_obj r1' hk
              exact hq3.out.nn.notF hcs hf)
            obtain ⟨af4, kf4, rfl, _⟩ := row_form q1
            obtain ⟨ac4, kc4, rfl, _⟩ := row_form q2
            obtain ⟨ad4, kd4, rfl, _⟩ := row_form q3
            simp only [outV]
            generalize s3.jrn = j4
            generalize s3.rep = p4
            generalize s3.cms.length = lc4
            generalize s3.drs.length = ld4
            have hbB : Below w4.heap.size w4 (w4.alloc (.cells #[.string j4, .bool p4, .slice af4 s3.frs.length kf4, .slice ac4 lc4 kc4, .slice ad4 ld4 kd4] 52)) := (Below.refl _ _).alloc (Nat.le_refl _) _
            have hD5 := heap_alloc_new w4 (.cells #[.string j4, .bool p4, .slice af4 s3.frs.length kf4, .slice ac4 lc4 kc4, .slice ad4 ld4 kd4] 52)
            have hq5 := hide (hq4.later hbB)
            have hC5 := (hbB.block C (some_lt hC4)).trans hC4
            have r5 := step_append_kept r4 hbB
            have q5 := step_append_kept q1 hbB
            clear HS hI4 nn4 tm4 fx4 sub4 q1 q2 q3 hq4 hC4 r4 hbB hC r1' hq3 c0 hsn
            go_upto_region 16 with (fail)
            generalize World.alloc _ _ = W5 at hD5 hq5 hC5 r5 q5 ⊢
            generalize w4.heap.size = C11 at hD5 ⊢
            have t2 : W5.cell? ⟨C, 2, none⟩ = some (.slice af2 s2.frs.length kf2) := cell_of_row _ _ 2 _ _ _ hC5
            have t3 : W5.cell? ⟨C11, 2, none⟩ = some (.slice af4 s3.frs.length kf4) := cell_of_row _ _ 2 _ _ _ hD5
            have hl2 : Hid (s2.frs.length + s3.frs.length ≤ 5001) := by
              show _ ≤ _
              have := hfl.out
              have := hfl4.out
              omega
            have hbase : wr.heap.size ≤ W5.heap.size := by have := some_lt hC5; have := hCr.out; omega
            have HF : Hid (∀ v7 w7, w7.ownsRow wr.heap.size 77 2 v7 (s2.frs.length + s3.frs.length) (FrC s2.frs ++ FrC s3.frs) → W5.grownBy w7 (Value.slice af2 s2.frs.length kf2).ownBlock → (∃ x, w7.cell? ⟨C, 2, none⟩ = some x) ∧ w7.frozen? ⟨C, 2, none⟩ = false ∧ ∃ F ao7 c7, v7 = .slice ao7 (s2.frs.length + s3.frs.length) c7 ∧ RCut N w g1 (.cells co 65 (0, 0)) k now ts u6 C wr.heap.size (w7.setCell ⟨C, 2, none⟩ v7) g4 s3 TL4 F ao7 c7 (.string j2) (.bool p2) (.slice ac2 lc2 kc2) (.slice ad2 ld2 kd2)) := by
              intro v7 w7 ho7 hg7
              have hneC : (Value.slice af2 s2.frs.length kf2).ownBlock ≠ some C := row_not r5 hC5 (fun c e => (by cases e))
              have hC7 := (hg7.block C (some_lt hC5) (fun e => hneC e.symm)).trans hC5
              refine ⟨⟨_, cell_of_row _ _ 2 _ _ _ hC7⟩, frozen_of_row _ _ 2 _ _ hC7, ?_⟩
              obtain ⟨ao7, c7, rfl, _⟩ := row_form ho7
              refine ⟨s2.frs ++ s3.frs, ao7, c7, rfl, ?_⟩
              have hgC : w7.grownBy (w7.setCell ⟨C, 2, none⟩ (.slice ao7 (s2.frs.length + s3.frs.length) c7)) (some C) := grown_cellOf (grown_self _ (some C)) 2 _
              have hC8 : (w7.setCell ⟨C, 2, none⟩ (.slice ao7 (s2.frs.length + s3.frs.length) c7)).heap[C]? = some (.cells #[.string j2, .bool p2, .slice ao7 (s2.frs.length + s3.frs.length) c7, .slice ac2 lc2 kc2, .slice ad2 ld2 kd2] 52) := by
                simp [World.setCell, Array.getElem?_modify, hC7]
              have ho8 := ho7.kept hgC (.inr (row_not ho7 hC7 (fun c e => (by cases e))))
              have fx8 : Fx (fun k => (Value.slice af2 s2.frs.length kf2).ownBlock = some k ∨ k = C) W5 (w7.setCell ⟨C, 2, none⟩ (.slice ao7 (s2.frs.length + s3.frs.length) c7)) := grown_Fx (Fx.grown hg7 fun k e => .inl e) hgC (fun i _ e => .inr (Option.some.inj e).symm)
              have hfr : ∀ k, (Value.slice af2 s2.frs.length kf2).ownBlock = some k → ∃ cs, W5.heap[k]? = some (.cells cs 77 (0, 0)) := fun k hk => row_obj r5 hk
              have hq8 := hq5.out.other fx8 (fun k hk => by
                rcases hk with hk | rfl
                · obtain ⟨cs, hcs⟩ := hfr k hk
                  exact hq5.out.nn.notF hcs
                · exact hCn4) (fun k hk => by
                rcases hk with hk | rfl
                · obtain ⟨cs, hcs⟩ := hfr k hk
                  exact row_not hq5.out.row hcs (fun c e => (by cases e))
                · exact row_not hq5.out.row hC5 (fun c e => (by cases e))) (fun hk => by
                rcases hk with hk | hk
                · obtain ⟨cs, hcs⟩ := hfr _ hk
                  rw [hq5.out.lb] at hcs
                  cases hcs
                · have h := hq5.out.lb
                  rw [hk, hC5] at h
                  cases h) (fun k hk => by
                rcases hk with hk | rfl
                · have := (r5.lt k hk).1
                  have := hrw.out
                  omega
                · exact hCw)
              have hlF : (s2.frs ++ s3.frs).length = s2.frs.length + s3.frs.length := List.length_append
              refine ⟨hq8.up (by omega), ?_, ?_, by rw [hlF]; exact hl2.out, by rw [hlF]; exact hC8, hCn4, by rw [hlF, FrC_append]; exact ho8, by rw [hnw4.out]; exact Int.le_refl _, by have := hnum'.ql; omega, fun e => by rw [hlF, hf1.out e]; omega⟩
              · have h := hr4.out
                rw [← hfl.out, ← hfl4.out] at h
                rw [hlF, ← List.replicate_append_replicate, ← List.append_assoc]
                rw [show 1 + (ts.length : Int) + ((s2.frs.length + s3.frs.length : Nat) : Int) = 1 + (ts.length : Int) + (s2.frs.length : Int) + (s3.frs.length : Int) by omega]
                exact h
              · have h := hout4.out
                rw [← hfl.out] at h
                exact hout.out.append h
            clear hC5 hD5 hq5 hq hr hnum' hf1 hps hsq
            go_wp2_with (at_builtin; refine wpList_append_rows rfl _ _ 48 rfl wr.heap.size 77 i1 (.agg #[.int .u32 0, .string ⟨#[]⟩]) 2 24 Tryz.underlying48 ji jz0 jz1 jz2 rfl (by decide) (.slice af2 s2.frs.length kf2) s2.frs.length (FrC s2.frs) rfl r5 W3.heap.size (.slice af4 s3.frs.length kf4) s3.frs.length (FrC s3.frs) rfl q5 (one_fr _) (by unfold maxLen; have := hl2.out; omega) (by have := hl2.out; omega) hbase ?_)
            intro v7 w7 ho7 hg7
            obtain ⟨⟨x7, f7⟩, f8, F, ao7, c7, rfl, hfin⟩ := HF.out v7 w7 ho7 hg7
            replace hfin := hide hfin
            clear HF ho7 hg7 r5 q5 t2 t3
            go_wp2_with fail
            go_meet
            exact ⟨g4, s3, TL4, F, ao7, c7, _, _, _, _, hfin.out⟩
        · have hk0 : k ≠ 0 := fun e => by have := (hkf.out e).2; cases this
          have hmeet : Hid (RCut N w g1 (.cells co 65 (0, 0)) k now ts u6 C wr.heap.size W3 g2 s2 TL2 s2.frs af2 kf2 (.string j2) (.bool p2) (.slice ac2 lc2 kc2) (.slice ad2 ld2 kd2)) :=
            ⟨hq3.out.up (by omega), by rw [hfl.out]; exact hr2.out, hout.out, by have := hfl.out; omega, hC, hCn, r1', by rw [hnw2.out]; exact Int.le_refl _, by have := hnum'.ql; omega, fun e => absurd e hk0⟩
          clear hC r1' hq3
          go_wp2_with fail
          go_meet
          exact ⟨g2, s2, TL2, s2.frs, af2, kf2, _, _, _, _, hmeet.out⟩
      case rest =>
        obtain ⟨g5, s5, TL5, F, af5, kf5, x0, x1, x3, x4, hrc⟩ := hcut
        replace hrc := hide hrc
        have hnow0 : 0 ≤ now := by have := hnum.out.n0; omega
        clear hq hq3 hr hr2 hout hQ2 hp2 hz2 hc5 hfl hnw2 hC r1' c0 hLc hkf hCr hrw
        generalize wr.heap.size = bF at hrc
        go_wp2_with fail
        go_loopw [6, 8, 13] (fun sv lv jv wj => ∃ h : Nat, h ≤ F.length ∧ jv = .int .i64 h ∧ lv = .int .u32 (1 + (ts.length : Int) + (h : Int)) ∧ Hid (RQ N w g5 s5 TL5 (1 + 2 * (k + 1 : Nat)) g1 (.cells co 65 (0, 0)) (ts ++ List.replicate h now) sv wj) ∧ wj.heap[C]? = some (.cells #[x0, x1, .slice af5 F.length kf5, x3, x4] 52) ∧ wj.ownsRow bF 77 2 (.slice af5 F.length kf5) F.length (FrC F)) (fun _ _ jv _ => F.length - (intOf jv).toNat)
        case atStart => exact ⟨0, Nat.zero_le _, rfl, by simp, by show RQ ..; simpa using hrc.out.q, hrc.out.blk, hrc.out.row⟩
        case round =>
          obtain ⟨h, hh, rfl, rfl, hq5, hC5, hF5⟩ := hrel
          have t2 : wr.cell? ⟨C, 2, none⟩ = some (.slice af5 F.length kf5) := cell_of_row _ _ 2 _ _ _ hC5
          by_cases hhl : h < F.length
          · have hhi : (h : Int) < (F.length : Int) := by omega
            obtain ⟨z, hz⟩ : ∃ z, F[h]? = some z := ⟨_, List.getElem?_eq_getElem hhl⟩
            obtain ⟨z1, z2⟩ := z
            have hfo := hrc.out.out.fr h _ hz
            have hlenT := hnum.out.len
            have hfl5 := hrc.out.len
            obtain ⟨f1, f2, f3, y0, y2, y4, yr, f4, f5, f6, f7⟩ := fr_frame wr hfo (by unfold U32; omega)
            dsimp only at f1 f2 f3 f4
            subst f1
            obtain ⟨ao', c', he, hH⟩ := row_form hF5
            cases he
            have hat : ∀ i u, i < 2 → ([.int .u32 0, .string z2] : List Value)[i]? = some u → (FrC F)[h * 2 + i]? = some u := fun i u hi hu => (flat_at (fun x : Int × ByteArray => ([Value.int .u32 x.1, Value.string x.2] : List Value)) 2 (by decide) (fun _ => rfl) F h i hi hz).trans hu
            obtain ⟨bf, off, rfl, _⟩ := hH (h * 2 + 0) _ (hat 0 _ (by decide) rfl)
            have r0 := hH.one rfl (hat 0 _ (by decide) rfl)
            have r1 := hH.one rfl (hat 1 _ (by decide) rfl)
            rw [Nat.add_zero] at r0
            rw [← Nat.add_assoc] at r1
            obtain ⟨cap8, W8, hcv, hb8, hvb8⟩ := conv_bytes z2 f3 wr
            have hr0' := hide r0
            clear hat hz hH hfo
            go_wp2_with fail
            refine Calls.mono (Decode_any _ (strNums z2) W8 hvb8) ?_
            rintro e w9 ⟨hb9, hdc⟩
            rcases hdc with ⟨_, v9, rfl, q0, q1, q2, q3, q4, rr', la, lc, hxs, hv9, _⟩ | ⟨hF0, _⟩
            · rw [f4] at hxs
              simp only [List.cons.injEq] at hxs
              obtain ⟨rfl, rfl, rfl, rfl, rfl, rfl⟩ := hxs
              have hp1 : ({ pkOf y0 1 y2 y4 yr with la := la, lc := lc } : Pkt).kind = 1 := f5
              have hp2 : ({ pkOf y0 1 y2 y4 yr with la := la, lc := lc } : Pkt).frm = 1 := f6
              have hp3 : ({ pkOf y0 1 y2 y4 yr with la := la, lc := lc } : Pkt).fseq = 1 + (ts.length : Int) + (h : Int) + 1 := f7
              generalize ({ pkOf y0 1 y2 y4 yr with la := la, lc := lc } : Pkt) = p at hv9 hp1 hp2 hp3
              subst hv9
              obtain ⟨pt, pk, ph, pu, pid, pd, pds, pf, pfs, pl, pla, pln, plc, pp⟩ := p
              dsimp only at hp1 hp2 hp3
              subst hp1 hp2
              replace hp3 := hide hp3
              have hb10 := (hb8.trans (hb9.mono hb8.size)).alloc (Nat.le_trans hb8.size hb9.size) (Pkt.box ⟨pt, 1, ph, pu, pid, pd, pds, 1, pfs, pl, pla, pln, plc, pp⟩)
              have hq10 := hide (hq5.out.later hb10)
              have hC10 := (hb10.block C (some_lt hC5)).trans hC5
              have hF10 := step_append_kept hF5 hb10
              have hP := PB.new ⟨pt, 1, ph, pu, pid, pd, pds, 1, pfs, pl, pla, pln, plc, pp⟩ w9
              have r10 := (World.cell?_of_block (a := ⟨bf, off + h * 2, none⟩) (hb10.block bf (World.block_lt_of_cell? _ _ r0))).trans r0
              clear hb8 hb9 r0 r1 hr0' hcv hvb8 t2 hq5 hC5 hF5 f2 f3 f4 f5 f6 f7 hb10
              unfold PB at hP
              dsimp only [Pkt.box] at hq10 hC10 hF10 r10 hP
              dsimp only [Pkt.val]
              go_upto_region 21 with (fail)
              generalize World.alloc _ _ = W10 at hq10 hC10 hF10 r10 hP ⊢
              generalize w9.heap.size = Cp at hP ⊢
              have t2 : W10.cell? ⟨C, 2, none⟩ = some (.slice (some ⟨bf, off, none⟩) F.length kf5) := cell_of_row _ _ 2 _ _ _ hC10
              have p1 : W10.cell? ⟨Cp, 1, none⟩ = some (.int .i64 1) := cell_of_row _ _ 1 _ _ _ hP
              have p7 : W10.cell? ⟨Cp, 7, none⟩ = some (.int .u32 1) := cell_of_row _ _ 7 _ _ _ hP
              have p8 : W10.cell? ⟨Cp, 8, none⟩ = some (.int .u32 pfs) := cell_of_row _ _ 8 _ _ _ hP
              clear hP
              have hle : decide (pfs ≤ 1 + (ts.length : Int) + (h : Int)) = false := decide_eq_false (by have := hp3.out; omega)
              go_upto_region 24 with (fail)
              clear t2 p1 p7 p8 hle r10
              have hul : Hid ((ts ++ List.replicate h now).length = ts.length + h) := by show _ = _; rw [List.length_append, List.length_replicate]
              have hrp := hide (repl_add ts h now)
              obtain ⟨us, hus⟩ : ∃ z, ts ++ List.replicate h now = z := ⟨_, rfl⟩
              have hchk := hide (fun h5 => pace_at hrc.out.out hhl hnum.out.pos hnow0 hus h5)
              rw [hus] at hq10 hul hrp
              replace hus := hide hus
              have hulb : Hid (us.length < 1000000000) := by show _ < _; have := hul.out; omega
              have hnb : now ≤ 1000000000000 := by have := hnum.out.n1; omega
              have hbU : Below W10.heap.size W10 (W10.alloc (.cells #[.int .u64 now] 35)) := (Below.refl _ _).alloc (Nat.le_refl _) _
              have hk1 : Hid (us.length + 1 ≤ maxLen) := by show _ ≤ _; have := hul.out; unfold maxLen; omega
              have hk2 : Hid ((us.length + 1) * 8 ≤ 140737488355328) := by show _ ≤ _; have := hul.out; omega
              have hr10 := hq10.out.row
              have hw10 := hq10.out.below.size
              go_wp2_with (at_builtin; refine wpList_append_own_at _ rfl _ _ 66 rfl w.heap.size 35 i2 (.int .u64 0) 1 8 Tryz.underlying66 ki kz0 kz1 kz2 rfl (by decide) u6 us.length (us.map (Value.int .u64)) rfl (hr10.alloc _) ⟨W10.heap.size, 0, none⟩ 1 1 [.int .u64 now] rfl rfl (cells_u64 W10 now) (by simp [Value.oneCell']) hk1.out hk2.out ?c3 ?_)
              case c3 => simp; omega
              intro v7 w7 ho7 hg7 _ hv7
              have hq11 := hide (hq10.out.push ho7 hg7 (by rw [World.size_alloc]; exact hv7))
              have hC11 := (hbU.block C (some_lt hC10)).trans hC10
              have hC12 := (hg7.block C (some_lt hC11) (fun e => row_not (hr10.alloc (.cells #[.int .u64 now] 35)) hC11 (fun c e => (by cases e)) e.symm)).trans hC11
              have hF11 := step_append_kept hF10 hbU
              have hF12 := hF11.kept hg7 (rows_apart hF11 (hr10.alloc _) (by decide))
              obtain ⟨gv, cv, rfl, _⟩ := row_shape' ho7 (Nat.succ_pos _)
              have hr12 := hide ho7
              clear hq10 hC10 hF10 hbU hr10 hC11 hF11 ho7 hg7 hv7 hw10
              have hgoal : Hid (∃ h' : Nat, h' ≤ F.length ∧ (.int .i64 ((h : Int) + 1) : Value) = .int .i64 h' ∧ (.int .u32 pfs : Value) = .int .u32 (1 + (ts.length : Int) + (h' : Int)) ∧ Hid (RQ N w g5 s5 TL5 (1 + 2 * (k + 1 : Nat)) g1 (.cells co 65 (0, 0)) (ts ++ List.replicate h' now) (.slice (some ⟨gv, 0, none⟩) (us.length + 1) cv) w7) ∧ w7.heap[C]? = some (.cells #[x0, x1, .slice (some ⟨bf, off, none⟩) F.length kf5, x3, x4] 52) ∧ w7.ownsRow bF 77 2 (.slice (some ⟨bf, off, none⟩) F.length kf5) F.length (FrC F)) := by
                refine ⟨h + 1, by omega, by simp, ?_, ?_, hC12, hF12⟩
                · rw [hp3.out, show 1 + (ts.length : Int) + (h : Int) + 1 = 1 + (ts.length : Int) + ((h + 1 : Nat) : Int) by omega]
                · show RQ ..
                  rw [hrp.out]
                  exact hq11.out
              have hhb : h < 1000000000 := by have := hrc.out.len; omega
              have hcell : Hid (∀ t, us[us.length - 5]? = some t → 5 ≤ us.length → w7.cell? ⟨gv, us.length - 5, none⟩ = some (.int .u64 t)) := fun t ht h5 => (hr12.out.cellAt (us.length - 5) (by rw [Nat.mul_one]; exact (row_tail (now := now) ht h5).1)).trans (row_tail ht h5).2
              clear hC12 hF12 hq11 hp3 hrp hr12 hrc hnum hul hk1 hk2 hus hb1' hL1 hobj hfl5 hlenT hhi hh hbx
              by_cases h5 : 5 < us.length + 1
              · obtain ⟨h5', k4, h5i⟩ := arith5 h5
                obtain ⟨t, ht1, ht0, ht2⟩ := hchk.out h5
                have d0 := hcell.out t ht1 h5'
                obtain ⟨k5, k6⟩ := dec_le ht2
                obtain ⟨k1, k2⟩ := wraps us.length hulb.out h5'
                have k3 := wrap_k ht0 ht2 hnb
                have hwk := wrap1 hhb
                clear hchk hcell h5 h5' ht1 ht0 ht2 hnb hhb hulb
                go_wp2
                go_roundw
                case rel => rw [hwk]; exact hgoal.out
                case measure => rw [hwk]; exact meas_lt hhl
              · have h5i := arith5' h5
                have hwk := wrap1 hhb
                clear hchk hcell h5 hnb hhb hulb
                go_wp2
                go_roundw
                case rel => rw [hwk]; exact hgoal.out
                case measure => rw [hwk]; exact meas_lt hhl
            · rw [f2] at hF0
              cases hF0
          · obtain rfl : h = F.length := by omega
            have hl' : 1 + (ts.length : Int) + (F.length : Int) = 1 + ((ts ++ List.replicate F.length now).length : Int) := by rw [List.length_append, List.length_replicate]; omega
            have hrt := hrc.out.r
            rw [hl'] at hrt
            have hgo : Hid (∃ (k' : Nat) (g' : NdG) (s' : St) (TL' : List Hp.Tm) (ts' : List Int) (nw' : Int), k' ≤ n + 1 ∧ (.int .i64 ((k : Int) + 1) : Value) = .int .i64 k' ∧ (.int .u64 now : Value) = .int .u64 nw' ∧ (.int .u32 (1 + (ts.length : Int) + (F.length : Int)) : Value) = .int .u32 (1 + (ts'.length : Int)) ∧ Hid (RQ N w g' s' TL' (1 + 2 * k') g1 (.cells co 65 (0, 0)) ts' u6 wr) ∧ Hid (Rtd (1 + (ts'.length : Int)) ts' s') ∧ Hid (RN k' nw' s' ts')) :=
              ⟨k + 1, g5, s5, TL5, ts ++ List.replicate F.length now, now, by omega, by simp, rfl, by rw [hl'], hq5, hrt, hnum.out.next now0 now1 hrc.out.tim hrc.out.len hrc.out.ql hrc.out.fst⟩
            have hwk := wrap1 (h := k) (by omega)
            clear hrt hl' hrc hnum hq5 hF5 hC5
            go_wp2
            go_roundw
            case rel => rw [hwk]; exact hgo.out
            case measure => rw [hwk]; exact meas_lt hlt
    · obtain rfl : k = n + 1 := by omega
      have hpos : (0 : Int) < (ts.length : Int) := by have := hnum.out.some (by omega); omega
      have hfin := hq.out.below
      obtain ⟨a6, c6, rfl, _⟩ := row_form hq.out.row
      clear hq hr hnum
      have hd : decide (0 < ts.length) = true := decide_eq_true (by omega)
      go_wp2
      go_ret
      exact ⟨by first | rfl | (rw [hd]), hfin⟩
end Go.Proofs.YtakaadcpaeiccabGreat
