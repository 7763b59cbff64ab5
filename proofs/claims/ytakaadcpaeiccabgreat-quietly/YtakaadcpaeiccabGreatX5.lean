import Derived.Test.YtakaadcpaeiccabGreatGX
namespace Go.Proofs.YtakaadcpaeiccabGreat
open Go.RowKit Go.Maps

/-- A node in memory: its own cells, its table, what it has written. -/
structure NdM (N : Nat) (x : NdV) (M : Nat) (ff : Int → Option Nat) (gg : Int → Value) (A : List Rt) (f : Int → Option Int) (sz : Nat) (W : World) : Prop where
  nd : NdB N x W
  mo : MapU W x.Mo f sz
  tb : MT x.self x.T M ff gg A W
  ne : M ≠ x.Mo
theorem NdM.later {N : Nat} {x : NdV} {M : Nat} {ff : Int → Option Nat} {gg : Int → Value} {A : List Rt} {f : Int → Option Int} {sz : Nat} {W W' : World} (h : NdM N x M ff gg A f sz W) (hb : Below W.heap.size W W') : NdM N x M ff gg A f sz W' :=
  ⟨h.nd.later hb, h.mo.block (hb.block _ h.mo.lt), h.tb.kept fun k hk => hb.block k (h.tb.lt hk), h.ne⟩
theorem RC_one' (L : List (Bool × Int × Int)) : ∀ u ∈ RC L, u.oneCell' = true := RC_oneCell L
/-- Something turns that is of none of a node's kinds. -/
theorem NdM.kept {N : Nat} {x : NdV} {M : Nat} {ff : Int → Option Nat} {gg : Int → Value} {A : List Rt} {f : Int → Option Int} {sz : Nat} {W W' : World} (h : NdM N x M ff gg A f sz W) {S : Nat → Prop} (hf : Fx S W W') (hS : ∀ k, S k → k < W.heap.size → ∃ o, W.heap[k]? = some o ∧ offT o ∧ (∀ c, o ≠ .cells c 131 (0, 0)) ∧ ∀ es cl, o ≠ .map es cl) : NdM N x M ff gg A f sz W' := by
  have hM : ∀ k, S k → k < W.heap.size → k ≠ M ∧ k ≠ x.Mo ∧ k ≠ N := by
    intro k hk hlt
    obtain ⟨o, h1, _, h3, h4⟩ := hS k hk hlt
    refine ⟨?_, ?_, ?_⟩
    · rintro rfl
      obtain ⟨D, ⟨es, cl, hm, _⟩, _⟩ := h.tb.map
      rw [hm] at h1
      exact h4 _ _ (Option.some.inj h1).symm
    · rintro rfl
      obtain ⟨es, cl, hm⟩ := h.mo.obj
      rw [hm] at h1
      exact h4 _ _ (Option.some.inj h1).symm
    · rintro rfl
      rw [show W.heap[k]? = _ from h.nd] at h1
      exact h3 _ (Option.some.inj h1).symm
  refine ⟨h.nd.block (hf.block _ h.nd.lt fun e => (hM _ e h.nd.lt).2.2 rfl), h.mo.block (hf.block _ h.mo.lt fun e => (hM _ e h.mo.lt).2.1 rfl), h.tb.keptFx hf fun k hk hlt => ?_, h.ne⟩
  obtain ⟨o, h1, h2, _⟩ := hS k hk hlt
  exact ⟨(hM k hk hlt).1, o, h1, h2⟩

set_option maxRecDepth 100000 in
set_option maxHeartbeats 4000000 in
theorem write_any (N B base : Nat) (x : NdV) (a : AcV) (M : Nat) (ff : Int → Option Nat) (gg : Int → Value) (A : List Rt) (f : Int → Option Int) (sz : Nat) (nws : List (Bool × Int × Int)) (frs cms : List (Int × ByteArray)) (drs : List Int) (w : World)
    (hn : NdM N x M ff gg A f sz w) (ha : AcM B base a nws frs cms drs w) (hbs : base ≤ w.heap.size) (hcnt : 0 ≤ x.cnt ∧ x.cnt ≤ 1000000) (hsz : sz ≤ 1000000) (hnw : nws.length ≤ 90000) :
    Calls Tryz.prog 71 #[.pointer (some ⟨N, 0, none⟩), .pointer (some ⟨B, 0, none⟩)] w fun e w' => ∃ v7 sz', e = .returned (.tuple #[]) ∧ NdM N { x with own := mxO x.seq x.own, cnt := x.cnt + (newsP x.seq x.own f A).2.length } M ff gg A (newsP x.seq x.own f A).1 sz' w' ∧ sz' ≤ sz + 8 ∧ AcM B base { a with wrt := v7 } (nws ++ (newsP x.seq x.own f A).2) frs cms drs w' ∧ Fx (fun k => k = N ∨ k = x.Mo ∨ AcIn B a k) w w' := by
  obtain ⟨i0, hi, hz0, hz1, hz2⟩ := info_parts info_rec
  have hlen := hn.tb.len
  have hok := hn.tb.ok
  have hPl := newsP_len x.seq x.own f A
  -- behind List
  let P5 : Value → List (Rt × Value) → World → Prop := fun l L W => L.map (·.1) = A ∧ LsR w.heap.size l L W ∧ Below w.heap.size w W
  have HL : Hid (∀ W', Below w.heap.size w W' → Calls Tryz.prog 60 #[.pointer (some ⟨x.T, 0, none⟩)] W' fun e w5 => ∃ ao n c L, e = .returned (.slice ao n c) ∧ P5 (.slice ao n c) L w5) := by
    intro W' hb
    refine (List_any (hn.later hb).tb).mono ?_
    rintro e w5 ⟨v, L, rfl, h1, h2, h3⟩
    obtain ⟨ao, c, rfl, _⟩ := row_form h2.row
    exact ⟨ao, _, c, L, rfl, h1, ⟨ownsRow_base_a h2.row hb.size, fun p hp => ownsRow_base_a (h2.bef p hp) hb.size⟩, hb.trans (h3.mono hb.size)⟩
  let P6 : Value → World → Prop := fun v W => W.ownsRow w.heap.size 82 3 v (newsP x.seq x.own f A).2.length (RC (newsP x.seq x.own f A).2) ∧ (∃ sz', NdM N { x with own := mxO x.seq x.own, cnt := x.cnt + (newsP x.seq x.own f A).2.length } M ff gg A (newsP x.seq x.own f A).1 sz' W ∧ sz' ≤ sz + 8) ∧ AcM B base a nws frs cms drs W ∧ Fx (fun k => k = N ∨ k = x.Mo) w W
  have HN : Hid (∀ l L W', P5 l L W' → Calls Tryz.prog 104 #[.pointer (some ⟨N, 10, none⟩), .int .u32 x.seq, l] W' fun e w6 => ∃ ao n c, e = .returned (.slice ao n c) ∧ P6 (.slice ao n c) w6) := by
    rintro l L W' ⟨h1, h2, hb⟩
    have hn' := hn.later hb
    have ha' := ha.later hb
    refine (news_any N x x.seq f sz l L A h1 hok hlen hcnt hsz W' hn'.nd hn'.mo ⟨ownsRow_base_a h2.row (Nat.zero_le _), fun p hp => ownsRow_base_a (h2.bef p hp) (Nat.zero_le _)⟩).mono ?_
    rintro e w6 ⟨v, sz', rfl, k1, k2, k3, k4, k5⟩
    obtain ⟨ao, c, rfl, _⟩ := row_form k1
    refine ⟨ao, _, c, rfl, ownsRow_base_a k1 hb.size, ⟨sz', ⟨k2, k3, hn'.tb.keptFx k5 ?_, hn.ne⟩, k4⟩, ha'.kept fun k hk => k5.block k (ha'.lt hk) ?_, (Fx.below hb).trans (S' := fun k => k = N ∨ k = x.Mo) k5 (fun i _ h => h)⟩
    · rintro k (rfl | rfl) _
      · refine ⟨fun e => ?_, _, hn'.nd, nd_offT x⟩
        obtain ⟨D, ⟨es, cl, hm, _⟩, _⟩ := hn'.tb.map
        rw [← e, show W'.heap[k]? = _ from hn'.nd] at hm
        cases hm
      · obtain ⟨es, cl, hm⟩ := hn'.mo.obj
        exact ⟨Ne.symm hn.ne, _, hm, map_offT es cl⟩
    · rintro (rfl | rfl)
      · exact ha'.not hn'.nd (nd_offA x) hk
      · obtain ⟨es, cl, hm⟩ := hn'.mo.obj
        exact ha'.not hm (map_offA es cl) hk
  have H5 : Hid (∀ l L W, P5 l L W → W.cell? ⟨B, 1, none⟩ = some a.wrt ∧ W.cell? ⟨N, 3, none⟩ = some (.int .u32 x.seq) ∧ W.cell? ⟨N, 7, none⟩ = some (.pointer (some ⟨x.T, 0, none⟩))) := by
    rintro l L W ⟨_, _, hb⟩
    exact ⟨(ha.later hb).blk.cell.2.1, (hn.later hb).nd.cell.2.2.1, (hn.later hb).nd.cell.2.2.2.2.1⟩
  have H6 : Hid (∀ v W, P6 v W → W.cell? ⟨B, 1, none⟩ = some a.wrt ∧ W.ownsRow base 82 3 a.wrt nws.length (RC nws) ∧ W.ownsRow w.heap.size 82 3 v (newsP x.seq x.own f A).2.length (RC (newsP x.seq x.own f A).2) ∧ base ≤ W.heap.size) := by
    rintro v W ⟨h1, _, h3, h4⟩
    exact ⟨h3.blk.cell.2.1, h3.wrt, h1, Nat.le_trans hbs h4.size⟩
  have HF : Hid (∀ v W v7 W7, P6 v W → W7.ownsRow base 82 3 v7 (nws.length + (newsP x.seq x.own f A).2.length) (RC nws ++ RC (newsP x.seq x.own f A).2) → W.grownBy W7 a.wrt.ownBlock → (W7.cell? ⟨B, 1, none⟩ = some a.wrt ∧ W7.frozen? ⟨B, 1, none⟩ = false) ∧ ∃ sz', NdM N { x with own := mxO x.seq x.own, cnt := x.cnt + (newsP x.seq x.own f A).2.length } M ff gg A (newsP x.seq x.own f A).1 sz' (W7.setCell ⟨B, 1, none⟩ v7) ∧ sz' ≤ sz + 8 ∧ AcM B base { a with wrt := v7 } (nws ++ (newsP x.seq x.own f A).2) frs cms drs (W7.setCell ⟨B, 1, none⟩ v7) ∧ Fx (fun k => k = N ∨ k = x.Mo ∨ AcIn B a k) w (W7.setCell ⟨B, 1, none⟩ v7)) := by
    rintro v W v7 W7 ⟨h1, ⟨sz', h2, h2'⟩, h3, h4⟩ ho7 hg
    have hBr : a.wrt.ownBlock ≠ some B := row_not h3.wrt h3.blk (fun c e => (by cases e))
    have hB7 : AcB B a W7 := h3.blk.block (hg.block _ h3.blk.lt (fun e => hBr e.symm))
    have hg2 : W7.grownBy (W7.setCell ⟨B, 1, none⟩ v7) (some B) := grown_cellOf (grown_self _ (some B)) 1 v7
    have hfx : Fx (AcIn B a) W (W7.setCell ⟨B, 1, none⟩ v7) := grown_Fx (Fx.grown hg fun k e => .inr (.inl e)) hg2 fun i _ e => by cases e; exact .inl rfl
    have f1 := h3.frm.kept hg (rows_apart h3.frm h3.wrt (by decide))
    have f2 := h3.cam.kept hg (rows_apart h3.cam h3.wrt (by decide))
    have f3 := h3.drp.kept hg (rows_apart h3.drp h3.wrt (by decide))
    refine ⟨⟨hB7.cell.2.1, hB7.free 1⟩, sz', h2.kept hfx (fun k hk _ => h3.offT hk), h2', ⟨hB7.setRec v7, ?_, ?_, ?_, ?_⟩, (h4.mono (fun i h => ?_)).trans hfx (fun i _ h => .inr (.inr h))⟩
    · rw [List.length_append, RC_append]
      exact ho7.kept hg2 (.inr (row_not ho7 hB7 (fun c e => (by cases e))))
    · exact f1.kept hg2 (.inr (row_not f1 hB7 (fun c e => (by cases e))))
    · exact f2.kept hg2 (.inr (row_not f2 hB7 (fun c e => (by cases e))))
    · exact f3.kept hg2 (.inr (row_not f3 hB7 (fun c e => (by cases e))))
    · rcases h with h | h
      · exact .inl h
      · exact .inr (.inl h)
  clear_value P5 P6
  obtain ⟨c0, c1, c2, c3, c4, c5, c6⟩ := ha.blk.cell
  obtain ⟨n0, n2, n3, n4, n5, n6, n7, n8, n9, n10⟩ := hn.nd.cell
  clear hn ha
  go_enter Tryz.func71, Tryz.ntmps71
  go_wp2_with fail
  go_region_law (first
    | (go_simp; go_at_call 60; refine (HL.out _ (by first | exact Below.refl _ _ | exact (Below.refl _ _).drew | exact below_drewN (Below.refl _ _) _)).mono ?_; rintro e w5 ⟨ao5, n5, cc5, L5, rfl, hP5⟩; obtain ⟨d1, d2, d3⟩ := H5.out _ _ _ hP5)
    | (go_simp; go_at_call 104; refine (HN.out _ _ _ hP5).mono ?_; rintro e w6 ⟨ao6, n6, cc6, rfl, hP6⟩; obtain ⟨e1, e2, e3, e4⟩ := H6.out _ _ hP6)
    | (refine step_append_rows rfl (.tmp 8) (.tmp 21) 79 rfl base 82 i0 (.agg #[.bool false, .int .u32 0, .int .u32 0]) 3 12 Tryz.underlying79 hi hz0 hz1 hz2 rfl (by decide) a.wrt nws.length (RC nws) (by simp [Act.eval]) e2 w.heap.size (.slice ao6 n6 cc6) _ (RC (newsP x.seq x.own f A).2) (by simp [Act.eval]) e3 (RC_one' _) (by unfold maxLen; omega) (by omega) e4 ?_; intro v7 w7 ho7 hg7; obtain ⟨⟨g1, g2⟩, hfin⟩ := HF.out _ _ _ _ hP6 ho7 hg7; obtain ⟨ao7, cc7, rfl, _⟩ := row_form ho7))
  all_goals
    obtain ⟨sz', k1, k2, k3, k4⟩ := hfin
    generalize World.setCell _ _ _ = w8 at k1 k3 k4 ⊢
    clear d1 d2 d3 e1 e2 e3 e4 g1 g2 hg7 ho7
    go_wp2
    go_returns
    exact ⟨_, _, rfl, k1, k2, k3, k4⟩
end Go.Proofs.YtakaadcpaeiccabGreat
