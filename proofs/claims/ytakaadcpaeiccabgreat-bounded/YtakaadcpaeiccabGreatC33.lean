import Derived.Test.YtakaadcpaeiccabGreatC32
namespace Go.Proofs.YtakaadcpaeiccabGreat
open Go.RowKit Go.Maps

/-- The cells that the end of a search reads. -/
@[reducible] def HE (N Bq Tm Ms : Nat) (id d : Int) (W : World) : Prop := W.cell? ⟨N, 14, none⟩ = some (.pointer (some ⟨Tm, 0, none⟩)) ∧ W.cell? ⟨N, 13, none⟩ = some (.map (some Ms)) ∧ W.cell? ⟨Bq, 4, none⟩ = some (.int .i64 id) ∧ W.cell? ⟨Bq, 0, none⟩ = some (.int .u32 d)
/-- What is left of the timers when one is taken back. -/
def Took (k : Int) (TL TL' : List Hp.Tm) : Prop := (∃ x, x.2.1 = k ∧ (x :: TL').Perm TL) ∨ ((∀ x ∈ TL, x.2.1 ≠ k) ∧ TL' = TL)
theorem HE.of {N B : Nat} {g : NdG} {s : St} {TL : List Hp.Tm} {W : World} (n : Nd N B g s TL W) {q : Sr} (hq : q ∈ s.Q) {Bq : Nat} (hB : g.h q.dest = some Bq) : HE N Bq g.x.Tm g.x.Msr q.id q.dest W := by
  obtain ⟨B', h1, h2⟩ := n.nn.rs.sr.ln q hq
  rw [hB] at h1
  cases h1
  have h3 := n.nn.cr.nd.more
  exact ⟨h3.2.2.2.1, h3.2.2.1, h2.cell.2.2.2.2, h2.cell.1⟩

/-- What a call leaves of a node, where the searches for none but D's have been turned. -/
def NdH (N B : Nat) (g : NdG) (s s' : St) (TL' : List Hp.Tm) (D : Int → Prop) (w w' : World) : Prop := ∃ g', Nd N B g' s' TL' w' ∧ Up B (Ft N g s) (Ft N g' s') w w' ∧ Hid (g'.x.T = g.x.T) ∧ Hid (∀ z, ¬ D z → g'.h z = g.h z)
theorem NdH.toP {N B : Nat} {g : NdG} {s s' : St} {TL' : List Hp.Tm} {D : Int → Prop} {w w' : World} (h : NdH N B g s s' TL' D w w') : NdP N B g s s' TL' w w' := by
  obtain ⟨g1, n1, u1, t1, _⟩ := h
  exact ⟨g1, n1, u1, t1⟩
theorem NdH.refl {N B : Nat} {g : NdG} {s : St} {TL : List Hp.Tm} {D : Int → Prop} {w w' : World} (n : Nd N B g s TL w) (hb : Below w.heap.size w w') : NdH N B g s s TL D w w' := ⟨g, n.later hb, .below hb, rfl, fun _ _ => rfl⟩
/-- A search is no more. -/
theorem Nd.delQ {N B : Nat} {g : NdG} {s : St} {TL : List Hp.Tm} {W W' : World} (n : Nd N B g s TL W) (q : Sr) (hq : q ∈ s.Q) (hm : MapP W' g.x.Msr (updP g.h q.dest none) (s.Q.length - 1)) (hg : W.grownBy W' (some g.x.Msr)) :
    Nd N B { g with h := updP g.h q.dest none } { s with Q := s.Q.filter fun z => !decide (z.dest = q.dest) } TL W' ∧ Up B (Ft N g s) (Ft N { g with h := updP g.h q.dest none } { s with Q := s.Q.filter fun z => !decide (z.dest = q.dest) }) W W' := by
  have hr := n.nn.rs
  obtain ⟨e1, e2, e3, e4, e5, e6, e7, e8, e9⟩ := n.nn.eq
  have hnd := n.nn.nod
  simp only [List.nodup_cons, List.mem_cons, List.not_mem_nil, or_false, not_or] at hnd
  obtain ⟨_, _, ⟨d1, d2⟩, d3, _⟩ := hnd
  have hk : ∀ {k : Nat} {o : Obj}, W.heap[k]? = some o → k ≠ g.x.Msr → W'.heap[k]? = W.heap[k]? := fun ho hn => hg.block _ (some_lt ho) fun e => hn (Option.some.inj e)
  have hno : ∀ {k : Nat} {o : Obj}, W.heap[k]? = some o → (∀ es cl, o ≠ .map es cl) → W'.heap[k]? = W.heap[k]? := by
    intro k o ho hc
    refine hk ho ?_
    rintro rfl
    obtain ⟨es, cl, hm0⟩ := hr.sr.map.obj
    rw [hm0] at ho
    exact hc _ _ (Option.some.inj ho).symm
  refine n.rest (hno n.nn.cr.nd (fun _ _ e => by cases e) |> fun h => n.nn.cr.nd.block h) rfl rfl ⟨e1, e2, e3, e4, e5, e6, e7, e8, e9⟩ (h' := updP g.h q.dest none) (u' := g.u) (Mt' := g.Mt) (hp' := g.hp) (tv' := g.tv)
    ⟨hr.sn.block ?_, hr.sr.del hq hm fun k hk1 hk2 => ?_, hr.tm.at (hno hr.tm.blk fun _ _ e => by cases e) ?_ (fun k hk1 => ?_), hr.hpo, hr.pm, row_at hr.pc fun k hk1 => ?_⟩
    (Fx.grown hg fun k e => by cases e; exact .inr (.inr (.inl (.inl rfl)))) (fun k hk1 => .inl ?_) ⟨rfl, rfl, rfl⟩ ⟨rfl, rfl, rfl, rfl, rfl, rfl, rfl, rfl, rfl⟩
  · obtain ⟨es, cl, hm0⟩ := hr.sn.obj
    exact hk hm0 d1
  · exact hg.block k (hr.sr.lt hk1) fun e => hk2 (Option.some.inj e)
  · obtain ⟨f, p1, _⟩ := hr.tm.map
    exact hg.block _ p1.lt fun e => d3 (Option.some.inj e).symm
  · obtain ⟨c, hc⟩ := row_obj hr.tm.row hk1
    exact hno hc fun _ _ e => by cases e
  · obtain ⟨c, hc⟩ := row_obj hr.pc hk1
    exact hno hc fun _ _ e => by cases e
  · rcases hk1 with h | h | h
    · exact .inl h
    · refine .inr (.inl ?_)
      rcases h with h | ⟨z, hz, h⟩
      · exact .inl h
      · have h1 := List.mem_filter.1 hz
        have h2 : z.dest ≠ q.dest := by simpa using h1.2
        refine .inr ⟨z, h1.1, h.imp (fun h => ?_) id⟩
        simpa [updP, h2] using h
    · exact .inr (.inr h)

set_option maxRecDepth 100000 in
set_option maxHeartbeats 4000000 in
theorem N_endSearch {N B : Nat} {g : NdG} {s : St} {TL : List Hp.Tm} {w : World} (n : Nd N B g s TL w) (q : Sr) (hq : q ∈ s.Q) (Bq : Nat) (hB : g.h q.dest = some Bq) (hl : TL.length ≤ 1000000) :
    Calls Tryz.prog 115 #[.pointer (some ⟨N, 0, none⟩), .pointer (some ⟨Bq, 0, none⟩)] w fun e w' => e = .returned (.tuple #[]) ∧ ∃ TL', NdH N B g s { s with Q := s.Q.filter fun z => !decide (z.dest = q.dest) } TL' (fun z => z = q.dest) w w' ∧ Took q.id TL TL' := by
  have hok := n.nn.rs.sr.ok q hq
  have hS : HE N Bq g.x.Tm g.x.Msr q.id q.dest w.drew := HE.of n.drew hq hB
  have HC := hide (N_cancel n.drew q.id (by have := hok.id; unfold I64; omega) hl)
  go_enter Tryz.func115, Tryz.ntmps115
  go_wp2_with fail
  go_region_held3 (HE N Bq g.x.Tm g.x.Msr q.id q.dest) (first | with_reducible exact hS | with_reducible assumption) ((go_at_call 150; refine HC.out.mono ?_; rintro e w2 ⟨b, h', v', TL', rfl, n2, u2, htk⟩; have hk2 : HE N Bq g.x.Tm g.x.Msr q.id q.dest w2 := HE.of n2 hq hB))
  rename_i hHx
  clear hHx hk2 hS HC
  have n2d := n2.drew
  have hS : HE N Bq g.x.Tm g.x.Msr q.id q.dest w2.drew := HE.of n2d hq hB
  obtain ⟨W', hrun, hm', hg'⟩ := n2d.nn.rs.sr.map.dels hok.dest 0 (by rw [hB]; rfl)
  obtain ⟨n3, u3⟩ := n2d.delQ q hq hm' hg'
  have hS' : HE N Bq g.x.Tm g.x.Msr q.id q.dest W' := by
    have h3 := n3.nn.cr.nd.more
    obtain ⟨B', h1, h2⟩ := n2d.nn.rs.sr.ln q hq
    rw [show ({ g with hp := h', tv := v' } : NdG).h q.dest = some Bq from hB] at h1
    cases h1
    have hBq : SrL Bq q (g.u q.dest) W' := h2.block (hg'.block Bq h2.lt fun e => by
      obtain ⟨es, cl, hm0⟩ := n2d.nn.rs.sr.map.obj
      have e1 : g.x.Msr = Bq := (Option.some.inj e).symm
      obtain ⟨c, hc⟩ := h2.obj
      rw [show ({ g with hp := h', tv := v' } : NdG).x.Msr = Bq from e1, hc] at hm0
      cases hm0)
    exact ⟨h3.2.2.2.1, h3.2.2.1, hBq.cell.2.2.2.2, hBq.cell.1⟩
  have hfin : Hid (NdH N B g s { s with Q := s.Q.filter fun z => !decide (z.dest = q.dest) } TL' (fun z => z = q.dest) w W') := ⟨_, n3, ((Up.below (Below.refl _ _).drew).trans u2).trans ((Up.below (Below.refl _ _).drew).trans u3), rfl, fun z hz => by simp [updP, hz]⟩
  replace htk := hide htk
  clear n2 n2d u2 n3 u3 hm' hg'
  go_wp2_with fail
  go_region_held3 (HE N Bq g.x.Tm g.x.Msr q.id q.dest) (first | with_reducible exact hS | with_reducible exact hS' | with_reducible assumption) (fail)
  rename_i hHx
  clear hHx hS hS'
  go_wp2
  go_returns
  exact ⟨rfl, TL', hfin.out, htk.out⟩
end Go.Proofs.YtakaadcpaeiccabGreat

namespace Go.Proofs.YtakaadcpaeiccabGreat
open Go.RowKit Go.Maps

/-- What 'sendWaiting' leaves. -/
def SwP (N B : Nat) (g : NdG) (s s2 : St) (TL : List Hp.Tm) (so : Option Sr) (fd : Bool) (w w' : World) : Prop := ∃ TL', NdH N B g s s2 TL' (fun z => fd = true ∧ ∃ q, so = some q ∧ z = q.dest) w w' ∧ (∀ q, so = some q → fd = true → Took q.id TL TL') ∧ ((so = none ∨ fd = false) → TL' = TL)
theorem sendText_same (s : St) (d : Int) (t : ByteArray) : (s.sendText d t).Q = s.Q ∧ (s.sendText d t).me = s.me ∧ (s.sendText d t).now = s.now ∧ (s.sendText d t).frs.length ≤ s.frs.length + 1 := by
  unfold St.sendText
  split
  · exact ⟨rfl, rfl, rfl, by simp [St.send]⟩
  · exact ⟨rfl, rfl, rfl, Nat.le_succ _⟩
theorem sendTexts_same (d : Int) (l : List ByteArray) (s : St) : (l.foldl (fun s t => s.sendText d t) s).Q = s.Q ∧ (l.foldl (fun s t => s.sendText d t) s).me = s.me ∧ (l.foldl (fun s t => s.sendText d t) s).now = s.now ∧ (l.foldl (fun s t => s.sendText d t) s).frs.length ≤ s.frs.length + l.length := by
  induction l generalizing s with
  | nil => exact ⟨rfl, rfl, rfl, Nat.le_refl _⟩
  | cons t l ih =>
    obtain ⟨h1, h2, h3, h4⟩ := ih (s.sendText d t)
    obtain ⟨k1, k2, k3, k4⟩ := sendText_same s d t
    simp only [List.foldl_cons, List.length_cons]
    exact ⟨h1.trans k1, h2.trans k2, h3.trans k3, by omega⟩

set_option maxRecDepth 100000 in
set_option maxHeartbeats 4000000 in
theorem N_sendWaiting {N B : Nat} {g : NdG} {s : St} {TL : List Hp.Tm} {w : World} (n : Nd N B g s TL w) (d : Int) (hd : U32 d) (hme : U32 s.me) (hnow : 0 ≤ s.now ∧ s.now ≤ 4611686018427387904) (hfl : s.frs.length ≤ 999000) (hl : TL.length ≤ 1000000) :
    Calls Tryz.prog 78 #[.pointer (some ⟨N, 0, none⟩), .pointer (some ⟨B, 0, none⟩), .int .u32 d] w fun e w' => e = .returned (.bool ((St.srOf s.Q d).isSome && (findL s.A d s.now).2)) ∧ SwP N B g s (s.sendAll d) TL (St.srOf s.Q d) (findL s.A d s.now).2 w w' := by
  obtain ⟨⟨y, fd⟩, hy⟩ : ∃ r, findL s.A d s.now = r := ⟨_, rfl⟩
  rw [hy]
  obtain ⟨bo, hbo⟩ : ∃ b, g.h d = b := ⟨_, rfl⟩
  have hlk := n.nn.rs.sr.map.looks_ok hd
  rw [hbo] at hlk
  obtain ⟨s2, hs2⟩ : ∃ s2, s.sendAll d = s2 := ⟨_, rfl⟩
  rw [hs2]
  unfold St.sendAll at hs2
  rw [hy] at hs2
  dsimp only at hs2 ⊢
  obtain ⟨so, hso⟩ : ∃ o, St.srOf s.Q d = o := ⟨_, rfl⟩
  rw [hso] at hs2 ⊢
  have hrel : Hid ((so = none ∧ bo = none) ∨ ∃ q Bq, so = some q ∧ bo = some Bq ∧ q ∈ s.Q ∧ q.dest = d ∧ g.h q.dest = some Bq) := by
    cases so with
    | none => exact .inl ⟨rfl, hbo.symm.trans (n.nn.rs.sr.off hd hso)⟩
    | some q =>
      obtain ⟨h1, h2, Bq, h3, _⟩ := n.nn.rs.sr.at hso
      exact .inr ⟨q, Bq, rfl, hbo.symm.trans h3, h1, h2, by rw [h2]; exact h3⟩
  replace hs2 := hide hs2
  have HF := hide (N_findP n d s.now hd hy)
  replace hy := hide hy
  replace hso := hide hso
  replace hbo := hide hbo
  have c13 := n.nn.cr.nd.more.2.2.1
  go_enter Tryz.func78, Tryz.ntmps78
  go_upto_region 2 with (fail)
  clear hlk c13
  go_cut [9, 10] from 22 to 35 (FoundP y fd w)
  case first =>
    have hS : HO N B g.x.T s.me s.ldat s.now w w.drew := HO.mk' n (Below.refl _ _).drew
    have hkB := hide fun W5 h5 => HO.mk' (W := W5) n h5
    go_region_held3 (HO N B g.x.T s.me s.ldat s.now w) (first | with_reducible exact hS | with_reducible assumption | (with_reducible apply HO.kSet7 hkB; assumption) | (with_reducible apply HO.kAlloc hkB; assumption) | (with_reducible apply HO.kAllocDrew hkB) | (with_reducible apply hkB.out; assumption)) ((go_at_call 79; refine (HF.out _ (And.right (by assumption))).mono ?_; rintro e w2 ⟨ao, c, rfl, hb2, hpr⟩; try ((with_reducible have hD := hpr zeroR (.slice none 0 0) (zero_new w)); obtain ⟨d0, d1, d2, d3, d4, d5, d6⟩ := hD.cell; have q0 := hD.free 0; have q1 := hD.free 1; have q2 := hD.free 2; have q3 := hD.free 3; have q4 := hD.free 4; have q5 := hD.free 5; have q6 := hD.free 6; have hD' : Hid (LnB w.heap.size zeroR (.slice none 0 0) w2) := hD; clear hD); clear hpr))
    all_goals
      go_wp2_with fail
      go_meet
      first | with_reducible exact found_alloc hb2 | with_reducible exact found_set hb2 hD'
  case rest =>
    obtain ⟨E, ao, c, rfl, rfl, hE, hEl, hb2⟩ := hcut
    clear HF hE hEl
    have n2 := n.later hb2
    rcases hrel.out with ⟨rfl, rfl⟩ | ⟨q, Bq, rfl, rfl, hq, hqd, hqB⟩
    · have hfin : Hid (NdH N B g s s2 TL (fun z => fd = true ∧ ∃ q, (none : Option Sr) = some q ∧ z = q.dest) w wc) := by
        show NdH N B g s s2 TL _ w wc
        rw [← hs2.out]
        exact NdH.refl n hb2
      have hsw : Hid (SwP N B g s s2 TL none fd w wc) := ⟨TL, hfin.out, fun q h => (by cases h), fun _ => rfl⟩
      clear hs2 n2 hrel hfin
      go_wp2_with fail
      go_returns
      exact ⟨rfl, hsw.out⟩
    · cases fd
      · have hfin : Hid (NdH N B g s s2 TL (fun z => false = true ∧ ∃ q', some q = some q' ∧ z = q'.dest) w wc) := by
          show NdH N B g s s2 TL _ w wc
          rw [← hs2.out]
          exact NdH.refl n hb2
        have hsw : Hid (SwP N B g s s2 TL (some q) false w wc) := ⟨TL, hfin.out, fun q _ h => (by cases h), fun _ => rfl⟩
        clear hs2 n2 hrel hfin
        go_wp2_with fail
        go_returns
        exact ⟨rfl, hsw.out⟩
      · replace hs2 : Hid ({ q.txt.foldl (fun s t => s.sendText d t) s with Q := s.Q.filter fun z => !decide (z.dest = d) } = s2) := hs2
        clear hrel
        have hok := n.nn.rs.sr.ok q hq
        have hrow := n.nn.rs.sr.row q hq
        obtain ⟨ta, tc, htv, _⟩ := row_form hrow
        have hBl : ∀ (g' : NdG) (st : St) (W : World), Nd N B g' st TL W → st.Q = s.Q → g'.h = g.h → g'.u = g.u → SrL Bq q (.slice ta q.txt.length tc) W ∧ W.ownsRow 0 9 1 (.slice ta q.txt.length tc) q.txt.length (q.txt.map Value.string) := by
          intro g' st W n' e1 e2 e3
          have hr' := n'.nn.rs.sr
          rw [e1, e2, e3] at hr'
          obtain ⟨B', h1, h2⟩ := hr'.ln q hq
          rw [hqB] at h1
          cases h1
          have h3 := hr'.row q hq
          rw [htv] at h2 h3
          exact ⟨h2, h3⟩
        obtain ⟨b0, b1, _⟩ := (hBl g s wc n2 rfl rfl rfl).1.cell
        have hBl := hide hBl
        have hln : q.txt.length ≤ 4 := hok.txt
        clear hrow htv
        simp only [ptrOf]
        have n2 := hide n2
        go_upto_region 5 with (fail)
        go_wp2_with fail
        clear b0 b1
        go_loopw [46] (fun i wr => ∃ (k : Nat) (st : St) (g' : NdG), k ≤ q.txt.length ∧ i = .int .i64 k ∧ Hid (st = (q.txt.take k).foldl (fun s t => s.sendText d t) s) ∧ Nd N B g' st TL wr ∧ Up B (Ft N g s) (Ft N g' st) w wr ∧ Hid (g'.x.T = g.x.T) ∧ Hid (g'.h = g.h ∧ g'.u = g.u)) (fun i _ => q.txt.length - (intOf i).toNat)
        case atStart => exact ⟨0, s, g, Nat.zero_le _, rfl, rfl, n2.out, .below hb2, rfl, rfl, rfl⟩
        case round =>
          obtain ⟨k, st, g', hk, rfl, hst, nk, uk, tk, vk⟩ := hrel
          have hsm := hide (sendTexts_same d (q.txt.take k) s)
          rw [← hst.out] at hsm
          obtain ⟨b0, b1⟩ := hBl.out g' st wr nk hsm.out.1 vk.out.1 vk.out.2
          by_cases hlt : k < q.txt.length
          · obtain ⟨t, ht⟩ : ∃ t, q.txt[k]? = some t := ⟨_, List.getElem?_eq_getElem hlt⟩
            have htm := List.mem_of_getElem? ht
            obtain ⟨gq, cq, hvq, _⟩ := row_shape' b1 (by omega)
            cases hvq
            have d0 := (b1.cellAt k (by simpa using hlt)).trans (by rw [List.getElem?_map, ht])
            have hfr : st.frs.length ≤ 1000000 := by have := hsm.out.2.2.2; simp only [List.length_take] at this; omega
            have HT := hide (N_sendText nk d hd t (hok.siz t htm) (by rw [hsm.out.2.1]; exact hme) (by rw [hsm.out.2.2.1]; exact hnow) hfr)
            have hwk : wrap64 ((k : Int) + 1) = (k : Int) + 1 := by unfold wrap64; omega
            have hstn : Hid (st.sendText d t = (q.txt.take (k + 1)).foldl (fun s t => s.sendText d t) s) := by
              show _ = _
              rw [List.take_add_one, ht, List.foldl_append, ← hst.out]
              rfl
            have hmeas : Hid (q.txt.length - (intOf (.int .i64 ((k : Int) + 1))).toNat < q.txt.length - (intOf (.int .i64 (k : Int))).toNat) := meas_next hlt
            have hn1 : k + 1 ≤ q.txt.length := hlt
            replace ht := hide ht
            clear b0 b1 nk hst hsm hBl hk hlt
            go_wp2_with fail
            refine HT.out.mono ?_
            rintro e w4 ⟨rfl, g4, n4, u4, t4, v4⟩
            have hfin : Hid (Nd N B g4 (st.sendText d t) TL w4 ∧ Up B (Ft N g s) (Ft N g4 (st.sendText d t)) w w4 ∧ Hid (g4.x.T = g.x.T) ∧ Hid (g4.h = g.h ∧ g4.u = g.u)) := ⟨n4, uk.trans u4, t4.out.trans tk.out, v4.out.1.trans vk.out.1, v4.out.2.trans vk.out.2⟩
            clear n4 u4 d0 HT
            go_wp2
            exact ⟨⟨k + 1, _, g4, hn1, by go_num, hstn, hfin.out⟩, hmeas.out⟩
          · obtain rfl : k = q.txt.length := by omega
            have hq' : q ∈ st.Q := by rw [hsm.out.1]; exact hq
            have hB' : g'.h q.dest = some Bq := by rw [vk.out.1]; exact hqB
            have HE := hide (N_endSearch nk q hq' Bq hB' hl)
            have hfin : Hid (∀ w5, (∃ TL', NdH N B g' st { st with Q := st.Q.filter fun z => !decide (z.dest = q.dest) } TL' (fun z => z = q.dest) wr w5 ∧ Took q.id TL TL') → SwP N B g s s2 TL (some q) true w w5) := by
              rintro w5 ⟨TL', ⟨g5, n5, u5, t5, y5⟩, h6⟩
              have e1 : ({ st with Q := st.Q.filter fun z => !decide (z.dest = q.dest) } : St) = s2 := by
                rw [← hs2.out, hsm.out.1, hst.out, List.take_length, hqd]
              rw [e1] at n5 u5
              exact ⟨TL', ⟨g5, n5, uk.trans u5, t5.out.trans tk.out, fun z hz => (y5.out z fun e => hz ⟨rfl, q, rfl, e⟩).trans (by rw [vk.out.1])⟩, fun q' h _ => by cases h; exact h6, fun h => by rcases h with h | h <;> cases h⟩
            clear b0 b1 nk hst hsm hBl hk hlt uk hq' hB' hs2
            go_wp2_with fail
            refine HE.out.mono ?_
            rintro e w5 ⟨rfl, h5⟩
            have hsw := hide (hfin.out w5 h5)
            clear h5 hfin HE
            go_wp2
            go_returns
            exact ⟨rfl, hsw.out⟩
end Go.Proofs.YtakaadcpaeiccabGreat

namespace Go.Proofs.YtakaadcpaeiccabGreat
open Go.RowKit Go.Maps

/-- The timers and the searches behind a call that may end the search for d. -/
def TmE (d : Int) (s : St) (TL : List Hp.Tm) (s2 : St) (TL' : List Hp.Tm) : Prop := (TL' = TL ∧ s2.Q = s.Q) ∨ ∃ q, St.srOf s.Q d = some q ∧ Took q.id TL TL' ∧ s2.Q = s.Q.filter fun z => !decide (z.dest = d)
def RpP (N B : Nat) (g : NdG) (s s2 : St) (TL : List Hp.Tm) (d : Int) (w w' : World) : Prop := ∃ TL', NdP N B g s s2 TL' w w' ∧ TmE d s TL s2 TL'

theorem sendAll_drs (s : St) (d : Int) : (s.sendAll d).drs = s.drs := by
  have h1 : ∀ (t : ByteArray) (s : St), (s.sendText d t).drs = s.drs := by
    intro t s
    unfold St.sendText
    split <;> rfl
  have h2 : ∀ (l : List ByteArray) (s : St), (l.foldl (fun s t => s.sendText d t) s).drs = s.drs := by
    intro l
    induction l with
    | nil => intro s; rfl
    | cons t l ih => intro s; exact (ih _).trans (h1 t s)
  unfold St.sendAll
  cases St.srOf s.Q d with
  | none => rfl
  | some q =>
    dsimp only
    split
    · exact h2 _ _
    · rfl
theorem SwP.rp {N B : Nat} {g : NdG} {s : St} {TL : List Hp.Tm} {d : Int} {a b : World} (h : SwP N B g s (s.sendAll d) TL (St.srOf s.Q d) (findL s.A d s.now).2 a b) : ∃ TL', NdH N B g s (s.sendAll d) TL' (fun z => z = d) a b ∧ TmE d s TL (s.sendAll d) TL' := by
  obtain ⟨TL', ⟨g1, n1, u1, t1, y1⟩, h2, h3⟩ := h
  refine ⟨TL', ⟨g1, n1, u1, t1, fun z hz => y1.out z ?_⟩, ?_⟩
  · rintro ⟨_, q, hq, rfl⟩
    exact hz (srOf_some hq).2
  unfold TmE St.sendAll
  cases hs : St.srOf s.Q d with
  | none => exact .inl ⟨h3 (.inl hs), rfl⟩
  | some q =>
    cases hf : (findL s.A d s.now).2 with
    | false => exact .inl ⟨h3 (.inr hf), by simp⟩
    | true => exact .inr ⟨q, rfl, h2 q hs hf, by simp⟩
theorem u64add2 {a c : Int} (h : 0 ≤ a ∧ a ≤ 4611686018427387904) (hc : 0 ≤ c ∧ c ≤ 8589934592) : IntKind.u64.wrap (a + IntKind.u64.wrap c) = a + c := by
  simp only [IntKind.wrap, IntKind.signed, IntKind.bits]
  simp
  omega

set_option maxRecDepth 100000 in
set_option maxHeartbeats 8000000 in
theorem N_hearReply {N B : Nat} {g : NdG} {s : St} {TL : List Hp.Tm} {w : World} (n : Nd N B g s TL w) (fr : Int) (hfrm : U32 fr) (p : Pkt) (hq : p.Hd) (hL : HoldsL w p []) (hme : U32 s.me) (hnow : 0 ≤ s.now ∧ s.now ≤ 4611686018427387904) (hfl : s.frs.length ≤ 990000) (hdl : s.drs.length ≤ 990000) (htl : TL.length ≤ 1000000) :
    Calls Tryz.prog 131 #[.pointer (some ⟨N, 0, none⟩), .pointer (some ⟨B, 0, none⟩), .int .u32 fr, p.val] w fun e w' => e = .returned (.tuple #[]) ∧ RpP N B g s (s.hearReply fr p) TL p.dest w w' := by
  have hp := hq.wf
  obtain ⟨hid, hde, hds, hfr, hfs, hli⟩ := hp.num
  have hb0 : Below w.heap.size w (w.alloc p.box) := (Below.refl _ _).alloc (Nat.le_refl _) _
  have hP0 := PB.new p w
  have n0 := n.later hb0
  obtain ⟨s2, hans⟩ : ∃ s2, s.hearReply fr p = s2 := ⟨_, rfl⟩
  rw [hans]
  have hs2 := hide hans
  clear hans
  dsimp only [Pkt.box] at hb0 n0
  unfold PB at hP0
  dsimp only [Pkt.box] at hP0
  go_enter Tryz.func131, Tryz.ntmps131
  go_upto_region 1 with (fail)
  generalize World.alloc _ _ = W1 at hb0 hP0 n0 ⊢
  have hCn := n.new (k := w.heap.size) (Nat.le_refl _)
  generalize hCC : w.heap.size = C at hP0 hCn ⊢
  replace hCC := hide hCC
  have hS : HC N B g.x.T C s.me s.seq s.sil s.now p W1.drew := HC.drewOf n0 hP0
  have hP1 : PB p C W1.drew := PB.below hP0 (Below.refl _ _).drew
  have n1 := n0.drew
  have hb1 := hb0.drew
  have hs3 := hs2.out
  unfold St.hearReply at hs3
  clear hs2 hP0 n0
  by_cases hd1 : p.dest = s.me
  · have hbe : (p.dest == s.me) = true := by simpa using hd1
    rw [if_pos hd1] at hs3
    clear hd1
    have HX := hide (N_drop n1 1 (by omega))
    rw [hs3] at HX
    have hQ : Hid (s2.Q = s.Q) := by show _ = _; rw [← hs3]; rfl
    clear hs3 hP1 n1
    go_region_held3 (HC N B g.x.T C s.me s.seq s.sil s.now p) (first | with_reducible exact hS | with_reducible assumption) (fail)
    rename_i hHx
    clear hHx hS
    go_wp2_with fail
    refine Calls.mono HX.out ?_
    rintro e w9 ⟨rfl, hN⟩
    have hfin : Hid (RpP N B g s s2 TL p.dest w w9) := ⟨TL, hN.pre hb1, .inl ⟨rfl, hQ.out⟩⟩
    clear hN HX
    go_wp2
    go_returns
    exact ⟨rfl, hfin.out⟩
  · have hbe : (p.dest == s.me) = false := by simpa using hd1
    rw [if_neg hd1] at hs3
    clear hd1
    obtain ⟨u, hu⟩ : ∃ u, updL s.me s.A p.dest p.dseq (St.far p.hops) fr (s.now + p.life) = u := ⟨_, rfl⟩
    have HU : Hid (∀ t, t = s.now + p.life → Calls Tryz.prog 161 #[.pointer (some ⟨g.x.T, 0, none⟩), .int .u32 p.dest, .int .u32 p.dseq, .int .i64 (St.far p.hops), .int .u32 fr, .int .u64 t] W1.drew.drew fun r w' => r = .returned (.int .i64 u.2) ∧ NdP N B g s { s with A := u.1 } TL W1.drew.drew w') := by
      rintro _ rfl
      have := N_update n1.drew p.dest p.dseq (St.far p.hops) fr (s.now + p.life) hde hds (by have := hq.hops; unfold I64 St.far; omega) hfrm (by unfold U32 at hli; unfold U64; omega)
      rw [hu] at this
      exact this
    rw [hu] at hs3
    obtain ⟨A2, E2⟩ := u
    dsimp only at hs3 HU
    clear hu
    replace hs3 := hide hs3
    have hl0 : 0 ≤ p.life ∧ p.life ≤ 8589934592 := by unfold U32 at hli; omega
    have hS2 : HC N B g.x.T C s.me s.seq s.sil s.now p W1.drew.drew := HC.drewOf n1 hP1
    have hP2 : PB p C W1.drew.drew := PB.below hP1 (Below.refl _ _).drew
    clear hP1 n1
    go_region_held3 (HC N B g.x.T C s.me s.seq s.sil s.now p) (first | with_reducible exact hS | with_reducible assumption) (fail)
    rename_i hHx
    clear hHx hS
    go_wp2_with fail
    go_region_held3 (HC N B g.x.T C s.me s.seq s.sil s.now p) (first | with_reducible exact hS2 | with_reducible assumption) (first
      | (go_at_call 162; refine (far_any p.hops hq.hops _).mono ?_; rintro e w3f ⟨rfl, rfl⟩)
      | (go_at_call 161; refine (HU.out _ (by first | rfl | exact u64add2 hnow hl0)).mono ?_; rintro e w4 ⟨rfl, hN⟩; obtain ⟨g4, n4, u4, t4⟩ := hN; obtain ⟨hP4, hCn4⟩ := u4.keepP hP2 hCn; have hk4 : HC N B g.x.T C s.me s.seq s.sil s.now p w4 := HC.next n4 hP4 t4.out rfl rfl rfl rfl))
    rename_i hHx
    clear hHx hS2 hk4
    have ua4 := (Up.below (B := B) (F := Ft N g s) (hb1.drew)).trans u4
    obtain ⟨s1, hs1⟩ : ∃ z, ({ s with A := A2 } : St) = z := ⟨_, rfl⟩
    have h1 : Hid (s1.me = s.me ∧ s1.now = s.now ∧ s1.Q = s.Q ∧ s1.frs = s.frs ∧ s1.drs = s.drs ∧ s1.seq = s.seq ∧ s1.sil = s.sil) := by
      show _ ∧ _
      rw [← hs1]
      exact ⟨rfl, rfl, rfl, rfl, rfl, rfl, rfl⟩
    have hs4 : Hid ((if E2 = 4 then s1.drop 2 else if p.frm = s1.me then (if E2 = 3 then (s1.sendAll p.dest).drop 7 else s1.sendAll p.dest) else if p.ttl = 1 then s1.drop 4 else s1.replyOn fr p) = s2) := by
      rw [← hs1]
      exact hs3
    replace hs3 := hs4
    clear hs4
    rw [hs1] at n4 ua4 hCn4
    clear hs1 u4 HU hP2 hCn
    have hfr1 : Hid (s1.frs.length ≤ 990000) := by show _ ≤ _; rw [h1.out.2.2.2.1]; exact hfl
    have hdr1 : Hid (s1.drs.length ≤ 990000) := by show _ ≤ _; rw [h1.out.2.2.2.2.1]; exact hdl
    by_cases h4 : E2 = 4
    · subst h4
      replace hs3 : Hid (s1.drop 2 = s2) := hs3
      have HX := hide (N_drop n4 2 (by have := hdr1.out; omega))
      rw [hs3.out] at HX
      have hQ : Hid (s2.Q = s.Q) := by show _ = _; rw [← hs3.out]; exact h1.out.2.2.1
      clear hs3 hP4 n4
      go_wp2_with fail
      refine Calls.mono HX.out ?_
      rintro e w9 ⟨rfl, g9, n9, u9, t9⟩
      have hfin : Hid (RpP N B g s s2 TL p.dest w w9) := ⟨TL, ⟨g9, n9, ua4.trans u9, t9.out.trans t4.out⟩, .inl ⟨rfl, hQ.out⟩⟩
      clear n9 u9 t9 HX
      go_wp2
      go_returns
      exact ⟨rfl, hfin.out⟩
    · have b4 : (E2 == 4) = false := by simpa using h4
      replace hs3 := hide ((if_neg h4).symm.trans hs3.out)
      clear h4
      have hS4 : HC N B g4.x.T C s1.me s1.seq s1.sil s1.now p w4.drew := HC.drewOf n4 hP4
      have hP5 : PB p C w4.drew := PB.below hP4 (Below.refl _ _).drew
      have n5 := n4.drew
      have ua5 := ua4.trans (.below (Below.refl _ _).drew : Up B (Ft N g4 s1) (Ft N g4 s1) w4 w4.drew)
      clear n4 hP4 ua4
      go_wp2_with fail
      by_cases hf : p.frm = s1.me
      · have bf : (p.frm == s1.me) = true := by simpa using hf
        replace hs3 := hide ((if_pos hf).symm.trans hs3.out)
        clear hf
        obtain ⟨sW, hsW⟩ : ∃ z, s1.sendAll p.dest = z := ⟨_, rfl⟩
        have hdW : Hid (sW.drs.length ≤ 990000) := by show _ ≤ _; rw [← hsW, sendAll_drs]; exact hdr1.out
        have HW : Hid (Calls Tryz.prog 78 #[.pointer (some ⟨N, 0, none⟩), .pointer (some ⟨B, 0, none⟩), .int .u32 p.dest] w4.drew fun e w' => (∃ b, e = .returned (.bool b)) ∧ ∃ TL', NdP N B g4 s1 sW TL' w4.drew w' ∧ TmE p.dest s TL sW TL') := by
          refine (N_sendWaiting n5 p.dest hde (by rw [h1.out.1]; exact hme) (by rw [h1.out.2.1]; exact hnow) (by have := hfr1.out; omega) htl).mono ?_
          rintro e w' ⟨rfl, h⟩
          obtain ⟨TL', a1, a2⟩ := h.rp
          replace a1 := a1.toP
          rw [hsW] at a1 a2
          exact ⟨⟨_, rfl⟩, TL', a1, by unfold TmE at a2 ⊢; rw [h1.out.2.2.1] at a2; exact a2⟩
        rw [hsW] at hs3
        clear hsW n5
        go_region_held3 (HC N B g4.x.T C s1.me s1.seq s1.sil s1.now p) (first | with_reducible exact hS4 | with_reducible assumption) (fail)
        rename_i hHx
        clear hHx hS4
        obtain ⟨_, _, _, _, _, p5, _⟩ := PB.cell hP5
        go_wp2_with fail
        refine HW.out.mono ?_
        rintro e w9 ⟨⟨b, rfl⟩, TL', ⟨g9, n9, u9, t9⟩, htm⟩
        replace htm := hide htm
        have ua9 := ua5.trans u9
        have t9' : Hid (g9.x.T = g.x.T) := t9.out.trans t4.out
        clear u9 t9 HW p5 hP5 ua5
        by_cases h3 : E2 = 3
        · have b3 : (E2 == 3) = true := by simpa using h3
          replace hs3 := hide ((if_pos h3).symm.trans hs3.out)
          clear h3
          have HX := hide (N_drop n9 7 (by have := hdW.out; omega))
          rw [hs3.out] at HX
          have htm2 : Hid (TmE p.dest s TL s2 TL') := by
            show TmE p.dest s TL s2 TL'
            rw [← hs3.out]
            exact htm.out
          clear n9 hs3
          go_wp2_with fail
          refine Calls.mono HX.out ?_
          rintro e w10 ⟨rfl, g10, n10, u10, t10⟩
          have hfin : Hid (RpP N B g s s2 TL p.dest w w10) := ⟨TL', ⟨g10, n10, ua9.trans u10, t10.out.trans t9'.out⟩, htm2.out⟩
          clear n10 u10 t10 HX
          go_wp2
          go_returns
          exact ⟨rfl, hfin.out⟩
        · have b3 : (E2 == 3) = false := by simpa using h3
          replace hs3 := hide ((if_neg h3).symm.trans hs3.out)
          clear h3
          have hfin : Hid (RpP N B g s s2 TL p.dest w w9) := by
            show RpP N B g s s2 TL p.dest w w9
            rw [← hs3.out]
            exact ⟨TL', ⟨g9, n9, ua9, t9'⟩, htm.out⟩
          clear n9 hs3
          go_wp2
          go_returns
          exact ⟨rfl, hfin.out⟩
      · have bf : (p.frm == s1.me) = false := by simpa using hf
        replace hs3 := hide ((if_neg hf).symm.trans hs3.out)
        clear hf
        go_region_held3 (HC N B g4.x.T C s1.me s1.seq s1.sil s1.now p) (first | with_reducible exact hS4 | with_reducible assumption) (fail)
        rename_i hHx
        clear hHx hS4
        obtain ⟨p0, p1, p2, p3, p4, p5, p6, p7, p8, p9, p10, p11⟩ := PB.cell hP5
        by_cases ht : p.ttl = 1
        · have bt : (p.ttl == 1) = true := by simpa using ht
          replace hs3 := hide ((if_pos ht).symm.trans hs3.out)
          clear ht
          have HX := hide (N_drop n5 4 (by have := hdr1.out; omega))
          rw [hs3.out] at HX
          have hQ : Hid (s2.Q = s.Q) := by show _ = _; rw [← hs3.out]; exact h1.out.2.2.1
          clear hs3 hP5 n5
          go_wp2_with fail
          refine Calls.mono HX.out ?_
          rintro e w9 ⟨rfl, g9, n9, u9, t9⟩
          have hfin : Hid (RpP N B g s s2 TL p.dest w w9) := ⟨TL, ⟨g9, n9, ua5.trans u9, t9.out.trans t4.out⟩, .inl ⟨rfl, hQ.out⟩⟩
          clear n9 u9 t9 HX
          go_wp2
          go_returns
          exact ⟨rfl, hfin.out⟩
        · have bt : (p.ttl == 1) = false := by simpa using ht
          replace hs3 := hide ((if_neg ht).symm.trans hs3.out)
          clear ht
          have HX := hide (N_replyOn n5 fr hfrm p hq hL.nil (by rw [h1.out.2.1]; exact hnow) (by have := hfr1.out; omega) (by have := hdr1.out; omega))
          rw [hs3.out] at HX
          dsimp only [Pkt.val] at HX
          have hQ : Hid (s2.Q = s.Q) := by
            show _ = _
            rw [← hs3.out]
            unfold St.replyOn
            split <;> exact h1.out.2.2.1
          clear hs3 hP5 n5
          go_wp2_with fail
          refine Calls.mono HX.out ?_
          rintro e w9 ⟨rfl, g9, n9, u9, t9⟩
          have hfin : Hid (RpP N B g s s2 TL p.dest w w9) := ⟨TL, ⟨g9, n9, ua5.trans u9, t9.out.trans t4.out⟩, .inl ⟨rfl, hQ.out⟩⟩
          clear n9 u9 t9 HX
          go_wp2
          go_returns
          exact ⟨rfl, hfin.out⟩
end Go.Proofs.YtakaadcpaeiccabGreat
