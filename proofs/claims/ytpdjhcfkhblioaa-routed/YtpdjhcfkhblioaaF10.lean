import Derived.Test.YtpdjhcfkhblioaaF9
namespace Go.Proofs.Ytpdjhcfkhblioaa
open Go.RowKit Go.Maps

/-- A line overwritten whole. -/
theorem RM.over {me : Int} {T : Nat} {L : List (Rt × Value)} {S : Nat → Prop} {w W W' : World} {G cap j : Nat} {x y : Rt} {u : Value} (hM : RM me T (.slice (some ⟨G, 0, none⟩) L.length cap) L W) (hasc : Asc (L.map (·.1))) (hS : ∀ k, RIn T (.slice (some ⟨G, 0, none⟩) L.length cap) L k → S k) (hp : L[j]? = some (x, u)) (hb : Below w.heap.size w W) (hxd : y.dest = x.dest) (hok : y.Ok) (hbef : y.bef = []) (F : Rt → Rt) (hF : F x = y)
    (h1 : W'.ownsRow 0 79 7 (.slice (some ⟨G, 0, none⟩) L.length cap) L.length (RtC (L.set j (y, .slice none 0 0)))) (h2 : W.grownBy W' (some G)) :
    RTab me T S (modL (L.map (·.1)) x.dest F) W' ∧ Fx S w W' := by
  have ht := hM.turn (W' := W') (p' := (y, .slice none 0 0)) hp hxd hok h1 (by dsimp only; rw [hbef]; exact nil_row _) (fun k hk hne => h2.block k hk (fun e => hne e.symm))
  exact ⟨RTab.turned (S := S) ht hasc hp hS (fun k hk => by cases hk) F hF, (Fx.below (S := S) hb).trans (Fx.grown (S := S) h2 (fun k e => by cases e; exact hS _ RM.inG)) (fun _ _ h => h)⟩

/-- What Update leaves where the line is there. -/
def UpTh (me : Int) (T : Nat) (S : Nat → Prop) (A : List Rt) (d s h n e : Int) (x : Rt) (w : World) (r : Ending) (w' : World) : Prop :=
  (grt (newR d s h n e) x = true ∧ r = .returned (.int .i64 0) ∧ RTab me T S (modL A d (updF s h n e)) w' ∧ Fx S w w') ∨ (grt (newR d s h n e) x = false ∧ r = .returned (.int .i64 3) ∧ Below w.heap.size w w')

set_option maxRecDepth 100000 in
set_option maxHeartbeats 4000000 in
theorem rUpdate_there {me : Int} {T : Nat} {v : Value} {L : List (Rt × Value)} {S : Nat → Prop} {w : World} (hM0 : RM me T v L w) (hS : ∀ k, RIn T v L k → S k) (d s h n e : Int) (hd : ¬ d = me) (hd0 : ¬ d = 0) (hdu : U32 d) (hs : U32 s) (hh : I64 h) (hn : U32 n) (he : U64 e) {x : Rt} (hl : lineOf (L.map (·.1)) d = some x) :
    Calls Try.prog 35 #[.pointer (some ⟨T, 0, none⟩), .int .u32 d, .int .u32 s, .int .i64 h, .int .u32 n, .int .u64 e] w (UpTh me T S (L.map (·.1)) d s h n e x w) := by
  have q1 : (d == me) = false := by simpa using hd
  have q2 : (d == 0) = false := by simpa using hd0
  have hb : Below w.heap.size w (w.alloc (rtBox (newR d s h n e) (.slice none 0 0))) := (Below.refl _ _).alloc (Nat.le_refl _) _
  have hM := hM0.later hb
  have hN0 := LnB.new (newR d s h n e) (.slice none 0 0) w
  have HL := line_any hM d
  rw [hl] at HL
  have HLh := (show Hid _ from HL)
  obtain ⟨u, hp, hxd0⟩ := hM.line hl
  have hxd := (show Hid _ from hxd0)
  clear hxd0
  have hxs := (hM.ok _ (List.mem_of_getElem? hp)).seq
  dsimp only at hxs
  obtain ⟨ub, uc, hub, _⟩ := row_form (hM.bef _ (List.mem_of_getElem? hp))
  dsimp only at hub
  subst hub
  obtain ⟨vo, vc, rfl⟩ := hM.slice
  obtain ⟨t0', t1'⟩ := hM0.cell
  have hlen := hM.len
  have hj := (List.getElem?_eq_some_iff.1 hp).1
  have hpj : (pos (L.map (·.1)) d : Int) < (L.length : Int) := by omega
  have hMh := (show Hid _ from hM)
  have hbh := (show Hid _ from hb)
  have hNh := (show Hid _ from hN0)
  have hR1 := (show Hid _ from fun W => rRank_any (newR d s h n e) hs (.slice none 0 0) W)
  have hR2 := (show Hid _ from fun W => rRank_any x hxs (.slice ub x.bef.length uc) W)
  have hasc := (show Hid _ from hM0.asc)
  dsimp only [rtBox, newR] at HLh hMh hbh hNh hR1
  clear HL hM hM0 hd hd0 hb hN0 hl
  generalize hjj : pos (L.map (·.1)) d = j at hp hj hpj HLh
  clear hjj
  go_enter Try.func35, Try.ntmps35
  go_wp2_with fail
  refine Calls.mono HLh.out ?_
  rintro r w1 ⟨rfl, q, rfl⟩
  clear HLh
  simp only [Option.isSome_some]
  have hM1 := hMh.out.draws q
  have hN1 := (show LnB w.heap.size ⟨d, s, h, n, true, e, []⟩ (.slice none 0 0) _ from hNh.out).later (draws_below _ q)
  have hb1 := below_drewN hbh.out q
  clear hMh hNh hbh
  generalize World.drewN _ q = W1 at hM1 hN1 hb1 ⊢
  obtain ⟨n0, n1, n2, n3, n4, n5, n6⟩ := hN1.cell
  dsimp only at n0 n1 n2 n3 n4 n5 n6
  go_wp2_with fail
  refine Calls.mono (hR1.out W1) ?_
  rintro r W2 ⟨rfl, hb2⟩
  have hM2 := hM1.later hb2
  have hN2 := hN1.later hb2
  have hbb2 := hb1.trans (hb2.mono hb1.size)
  clear hM1 hN1 hb1 hb2 n0 n1 n2 n3 n4 n5 n6
  obtain ⟨G, cap, hv, hc, hf⟩ := hM2.at hp
  cases hv
  obtain ⟨t0, t1⟩ := hM2.cell
  have c0 := hc 0 _ rfl
  have c1 := hc 1 _ rfl
  have c2 := hc 2 _ rfl
  have c3 := hc 3 _ rfl
  have c4 := hc 4 _ rfl
  have c5 := hc 5 _ rfl
  have c6 := hc 6 _ rfl
  rw [Nat.add_zero] at c0
  dsimp only at c0 c1 c2 c3 c4 c5 c6
  clear hc hf
  go_wp2_with fail
  refine Calls.mono (hR2.out W2) ?_
  rintro r W3 ⟨rfl, hb3⟩
  have hM3 := hM2.later hb3
  have hN3 := hN2.later hb3
  have hbb3 := hbb2.trans (hb3.mono hbb2.size)
  clear hM2 hN2 hbb2 hb3 c0 c1 c2 c3 c4 c5 c6 t0 t1 hR1 hR2 t0' t1'
  obtain ⟨G', cap', hv, hc, hf⟩ := hM3.at hp
  cases hv
  obtain ⟨t0, t1⟩ := hM3.cell
  have c0 := hc 0 _ rfl
  have c1 := hc 1 _ rfl
  have c2 := hc 2 _ rfl
  have c3 := hc 3 _ rfl
  have c4 := hc 4 _ rfl
  have c5 := hc 5 _ rfl
  have c6 := hc 6 _ rfl
  rw [Nat.add_zero] at c0
  dsimp only at c0 c1 c2 c3 c4 c5 c6
  obtain ⟨n0, n1, n2, n3, n4, n5, n6⟩ := hN3.cell
  dsimp only at n0 n1 n2 n3 n4 n5 n6
  have hnot := (show Hid _ from grt_not (newR d s h n e) x)
  have hra : Hid (rk (newR d s h n e) = rk ⟨d, s, h, n, true, e, []⟩) := rfl
  rw [hra.out] at hnot
  clear hra
  have hbbh := (show Hid _ from hbb3)
  have fG := fun i => hf i
  have hfin : Hid (∀ W', W' = (storeAt W3 G j (newR d s h n e) (.slice none 0 0)).drew → RTab me T S (modL (L.map (·.1)) d (updF s h n e)) W' ∧ Fx S w W') := by
    intro W' hW'
    have hst := row_store hM3.row hp (newR d s h n e) (.slice none 0 0)
    generalize storeAt W3 G j (newR d s h n e) (.slice none 0 0) = W4 at hst hW'
    have := RM.over (y := newR d s h n e) hM3 hasc.out hS hp hbbh.out hxd.out.symm (newR_ok hdu hs hh hn he) rfl (updF s h n e) (by unfold updF newR; rw [hxd.out]) hst.1 hst.2
    rw [hxd.out] at this
    rw [hW']
    exact ⟨this.1.later (draws_below W4 1), this.2.trans (Fx.below (S := S) (draws_below W4 1)) (fun _ _ h => h)⟩
  clear hM3 hN3 hbb3 hc hf hp hS hasc
  by_cases h1 : rk ⟨d, s, h, n, true, e, []⟩ < rk x
  · have hg : Hid (grt (newR d s h n e) x = false) := by
      show _ = _
      have := hnot.out
      rw [decide_eq_true h1, Bool.true_or] at this
      simpa using this
    have b1 : decide (rk ⟨d, s, h, n, true, e, []⟩ < rk x) = true := decide_eq_true h1
    clear hfin hnot h1
    go_wp2
    go_ret
    exact .inr ⟨hg.out, rfl, hbbh.out⟩
  · by_cases h2 : rk ⟨d, s, h, n, true, e, []⟩ = rk x
    · by_cases h3 : h ≥ x.hops
      · have hg : Hid (grt (newR d s h n e) x = false) := by
          show _ = _
          have := hnot.out
          rw [decide_eq_true h2, show decide ((newR d s h n e).hops ≥ x.hops) = true from decide_eq_true h3, Bool.and_self, Bool.or_true] at this
          simpa using this
        have b1 : decide (rk ⟨d, s, h, n, true, e, []⟩ < rk x) = false := decide_eq_false h1
        have b2 : (rk ⟨d, s, h, n, true, e, []⟩ == rk x) = true := by simpa using h2
        have b3 : decide (x.hops ≤ h) = true := decide_eq_true h3
        clear hfin hnot h1 h2 h3
        go_wp2
        go_ret
        exact .inr ⟨hg.out, rfl, hbbh.out⟩
      · have hg : Hid (grt (newR d s h n e) x = true) := by
          show _ = _
          have := hnot.out
          rw [decide_eq_false h1, show decide ((newR d s h n e).hops ≥ x.hops) = false from decide_eq_false h3, Bool.and_false, Bool.or_false] at this
          simpa using this
        have b1 : decide (rk ⟨d, s, h, n, true, e, []⟩ < rk x) = false := decide_eq_false h1
        have b2 : (rk ⟨d, s, h, n, true, e, []⟩ == rk x) = true := by simpa using h2
        have b3 : decide (x.hops ≤ h) = false := decide_eq_false h3
        clear hnot h1 h2 h3
        go_wp2_with fail
        go_region
        all_goals
          go_wp2
          go_ret
          exact .inl ⟨hg.out, rfl, hfin.out _ rfl⟩
    · have hg : Hid (grt (newR d s h n e) x = true) := by
        show _ = _
        have := hnot.out
        rw [decide_eq_false h1, decide_eq_false h2, Bool.false_and, Bool.or_false] at this
        simpa using this
      have b1 : decide (rk ⟨d, s, h, n, true, e, []⟩ < rk x) = false := decide_eq_false h1
      have b2 : (rk ⟨d, s, h, n, true, e, []⟩ == rk x) = false := by simpa using h2
      clear hnot h1 h2 
      go_wp2_with fail
      go_region
      all_goals
        go_wp2
        go_ret
        exact .inl ⟨hg.out, rfl, hfin.out _ rfl⟩
end Go.Proofs.Ytpdjhcfkhblioaa
