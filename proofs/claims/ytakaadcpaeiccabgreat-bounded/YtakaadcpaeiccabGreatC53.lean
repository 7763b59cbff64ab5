import Derived.Test.YtakaadcpaeiccabGreatC34
import Derived.Test.YtakaadcpaeiccabGreatC36
import Derived.Test.YtakaadcpaeiccabGreatC45
import Derived.Deep.RegionLaw
import Derived.Laws.EntriesVeiled
import Derived.Test.YtakaadcpaeiccabGreatC37
namespace Go.Proofs.YtakaadcpaeiccabGreat
open Go.RowKit Go.Maps

/-! The hearing of a frame: what is done with its kind stands in a table. -/
theorem hearers_any (w : World) :
    Calls Tryz.prog 94 #[] w fun e w' => e = .returned (.agg #[.nilFunc, .func (.func 130) #[] #[], .func (.func 131) #[] #[], .func (.func 132) #[] #[], .nilFunc, .nilFunc, .nilFunc, .nilFunc, .nilFunc, .func (.func 133) #[] #[]]) ∧ Below w.heap.size w w' := by
  go_enter Tryz.func94, Tryz.ntmps94
  go_wp2
  go_returns
  exact ⟨rfl, (Below.refl _ _).alloc (Nat.le_refl _) _⟩

theorem send_la (s : St) (t : Int) (p : Pkt) (ao : Option Addr) (c : Nat) (L : List (Int × Int)) : s.send t { p with la := ao, lc := c } L = s.send t p L := by
  unfold St.send
  rw [encX_la]
theorem askOn_la (s : St) (p : Pkt) (ao : Option Addr) (c : Nat) : s.askOn { p with la := ao, lc := c } = s.askOn p := by
  unfold St.askOn
  dsimp only
  exact send_la s 0 { p with ttl := p.ttl - 1, hops := St.far p.hops, dseq := if (lineOf s.A p.dest).isSome then max p.dseq (numL s.A p.dest) else p.dseq, unk := if (lineOf s.A p.dest).isSome then false else p.unk } ao c []
theorem asked_la (s : St) (p : Pkt) (ao : Option Addr) (c : Nat) : s.asked { p with la := ao, lc := c } = s.asked p := by
  unfold St.asked
  dsimp only
  rw [askOn_la]
  rfl
theorem learn_la (s : St) (fr : Int) (p : Pkt) (ao : Option Addr) (c : Nat) : s.learn fr { p with la := ao, lc := c } = s.learn fr p := by
  simp only [St.learn, asked_la]
theorem hearRequest_la (s : St) (fr : Int) (p : Pkt) (ao : Option Addr) (c : Nat) : s.hearRequest fr { p with la := ao, lc := c } = s.hearRequest fr p := by
  unfold St.hearRequest
  dsimp only
  rw [learn_la]
  try rfl
theorem replyOn_la (s : St) (fr : Int) (p : Pkt) (ao : Option Addr) (c : Nat) : s.replyOn fr { p with la := ao, lc := c } = s.replyOn fr p := by
  unfold St.replyOn
  dsimp only
  split
  · exact send_la _ _ { p with ttl := p.ttl - 1, hops := St.far p.hops } ao c []
  · rfl
theorem hearReply_la (s : St) (fr : Int) (p : Pkt) (ao : Option Addr) (c : Nat) : s.hearReply fr { p with la := ao, lc := c } = s.hearReply fr p := by
  unfold St.hearReply
  dsimp only
  rw [replyOn_la]
  try rfl
theorem hearData_la (s : St) (fr : Int) (p : Pkt) (ao : Option Addr) (c : Nat) : s.hearData fr { p with la := ao, lc := c } = s.hearData fr p := by
  unfold St.hearData
  dsimp only
  split
  · rfl
  · split
    · rfl
    · split
      · exact send_la _ _ { p with ttl := p.ttl - 1 } ao c []
      · rfl
theorem hearPkt_la (s : St) (fr : Int) (p : Pkt) (ao : Option Addr) (c : Nat) (L : List (Int × Int)) : s.hearPkt fr { p with la := ao, lc := c } L = s.hearPkt fr p L := by
  unfold St.hearPkt
  dsimp only
  rw [hearRequest_la, hearReply_la, hearData_la]
  rfl

set_option maxRecDepth 100000 in
set_option maxHeartbeats 4000000 in
theorem N_hearSilent {N B : Nat} {g : NdG} {s : St} {TL : List Hp.Tm} {w : World} (n : Nd N B g s TL w) (fr : Int) (p : Pkt) (hp : p.Wf) (hnow : 0 ≤ s.now ∧ s.now ≤ 4611686018427387904) (hfl : s.frs.length ≤ 1000000) (hdl : s.drs.length ≤ 1000000) :
    Calls Tryz.prog 93 #[.pointer (some ⟨N, 0, none⟩), .pointer (some ⟨B, 0, none⟩), .int .u32 fr, p.val] w fun e w' => e = .returned (.tuple #[]) ∧ NdP N B g s (s.hearSilent fr p) TL w w' := by
  obtain ⟨_, hde, _, _, _, _⟩ := hp.num
  have hb0 : Below w.heap.size w (w.alloc p.box) := (Below.refl _ _).alloc (Nat.le_refl _) _
  have hP0 := PB.new p w
  have n0 := n.later hb0
  have hCn : ¬ Ft N g s w.heap.size := n.new (Nat.le_refl _)
  obtain ⟨s2, hans⟩ : ∃ s2, s.hearSilent fr p = s2 := ⟨_, rfl⟩
  rw [hans]
  replace hans := hide hans
  have HX := hide (N_drop n0 8 hdl)
  dsimp only [Pkt.box] at hb0 n0 HX
  unfold PB at hP0
  dsimp only [Pkt.box] at hP0
  go_enter Tryz.func93, Tryz.ntmps93
  go_upto_region 1 with (fail)
  generalize World.alloc _ _ = W1 at hb0 hP0 n0 HX ⊢
  generalize hCC : w.heap.size = C at hP0 hCn ⊢
  replace hCC := hide hCC
  go_wp2_with fail
  refine Calls.mono HX.out ?_
  rintro e w2 ⟨rfl, g2, n2, u2, t2⟩
  obtain ⟨hP2, hCn2⟩ := u2.keepP hP0 hCn
  obtain ⟨s1, hs1⟩ : ∃ z, s.drop 8 = z := ⟨_, rfl⟩
  have h1 : Hid (s1.me = s.me ∧ s1.now = s.now ∧ s1.frs = s.frs ∧ s1.A = s.A) := by
    show _ ∧ _
    rw [← hs1]
    exact ⟨rfl, rfl, rfl, rfl⟩
  have hs2 : Hid ((if p.kind = 9 ∧ p.dest ≠ s1.me then { s1.loseOne fr p.dest with sil := s1.now + 2000 } else s1) = s2) := by
    rw [← hs1]
    have := hans.out
    unfold St.hearSilent at this
    exact this
  rw [hs1] at n2 u2 hCn2
  have ua2 := (Up.below hb0 : Up B (Ft N g s) (Ft N g s) w W1).trans u2
  have hnow1 : 0 ≤ s1.now ∧ s1.now ≤ 4611686018427387904 := by rw [h1.out.2.1]; exact hnow
  have hfl1 : s1.frs.length ≤ 1000000 := by rw [h1.out.2.2.1]; exact hfl
  clear hs1 hans HX hb0 n0 u2 hP0 hCn
  obtain ⟨c2, c3, c4, c7, c0⟩ := n2.cell
  obtain ⟨p0, p1, p2, p3, p4, p5, p6, p7, p8, p9, p10, p11⟩ := PB.cell hP2
  have hq : ∀ q, Below w2.heap.size w2 (w2.drewN q) := fun q => below_drewN (Below.refl _ _) q
  by_cases hk : p.kind = 9 ∧ p.dest ≠ s1.me
  · replace hs2 := hide ((if_pos hk).symm.trans hs2.out)
    obtain ⟨hk9, hkd⟩ := hk
    have b9 : (p.kind == 9) = true := by simpa using hk9
    have bd : (p.dest != s1.me) = true := by simpa using hkd
    clear hk9 hkd
    go_wp2_with fail
    go_quiet (fail)
    generalize hg : World.drewN _ _ = W3
    obtain ⟨n3, hP3, hb3⟩ := (show ∀ q w3, w2.drewN q = w3 → Nd N B g2 s1 TL w3 ∧ PB p C w3 ∧ Below w2.heap.size w2 w3 from by
      rintro q _ rfl
      exact ⟨n2.later (hq q), PB.below hP2 (hq q), hq q⟩) _ _ hg
    have ua3 := ua2.trans (.below hb3 : Up B (Ft N g2 s1) (Ft N g2 s1) w2 W3)
    clear hg n2 hP2 c2 c3 c4 c7 c0 p0 p1 p2 p3 p4 p5 p6 p7 p8 p9 p10 p11 hq ua2 hb3 b9 bd
    obtain ⟨p0, p1, p2, p3, p4, p5, p6, p7, p8, p9, p10, p11⟩ := PB.cell hP3
    have HL := hide (N_loseOne n3 fr p.dest hde hfl1)
    go_wp2_with fail
    refine Calls.mono HL.out ?_
    rintro e w4 ⟨rfl, g4, n4, u4, t4⟩
    obtain ⟨s3, hs3⟩ : ∃ z, s1.loseOne fr p.dest = z := ⟨_, rfl⟩
    have h3 : Hid (s3.now = s1.now ∧ { s3 with sil := s1.now + 2000 } = s2) := by
      show _ ∧ _
      rw [← hs3]
      exact ⟨rfl, hs2.out⟩
    rw [hs3] at n4 u4
    have ua4 := ua3.trans u4
    have tt : Hid (g4.x.T = g.x.T) := t4.out.trans t2.out
    clear hs3 hs2 HL u4 ua3 n3 hP3 p0 p1 p2 p3 p4 p5 p6 p7 p8 p9 p10 p11
    obtain ⟨c2, c3, c4, c7, c0⟩ := n4.cell
    rw [h3.out.1] at c0
    have f4 := n4.nn.cr.nd.free 4
    have hg1 : w4.grownBy (w4.setCell ⟨N, 4, none⟩ (.int .u64 (s1.now + 2000))) (some N) := grown_cellOf (grown_self _ (some N)) 4 _
    obtain ⟨e1, e2, e3, e4, e5, e6, e7, e8, e9⟩ := n4.nn.eq
    obtain ⟨n5, u5⟩ := n4.cells (s' := { s3 with sil := s1.now + 2000 }) (n4.nn.cr.nd.setSil (s1.now + 2000)) (Fx.grown hg1 fun k e => by cases e; rfl) ⟨e1, e2, rfl, e4, e5, e6, e7, e8, e9⟩ ⟨rfl, rfl, rfl, rfl, rfl, rfl⟩ ⟨rfl, rfl, rfl, rfl, rfl, rfl, rfl, rfl, rfl⟩ ⟨rfl, rfl, rfl, rfl, rfl⟩
    rw [h3.out.2] at n5 u5
    have hw : IntKind.u64.wrap (s1.now + 2000) = s1.now + 2000 := u64add hnow1 (by omega)
    have hfin : Hid (NdP N B g s s2 TL w (w4.setCell ⟨N, 4, none⟩ (.int .u64 (s1.now + 2000)))) := ⟨_, n5, ua4.trans u5, tt.out⟩
    clear n4 n5 u5 ua4 hg1 e1 e2 e3 e4 e5 e6 e7 e8 e9 h3
    go_wp2
    go_returns
    first
      | exact ⟨rfl, hfin.out⟩
      | (rw [hw]; exact ⟨rfl, hfin.out⟩)
  · replace hs2 := hide ((if_neg hk).symm.trans hs2.out)
    have hk' : p.kind ≠ 9 ∨ (p.kind = 9 ∧ p.dest = s1.me) := by
      by_cases h9 : p.kind = 9
      · exact .inr ⟨h9, Classical.byContradiction fun h => hk ⟨h9, h⟩⟩
      · exact .inl h9
    clear hk
    have hfin : Hid (∀ w3, Below w2.heap.size w2 w3 → NdP N B g s s2 TL w w3) := by
      intro w3 hb
      rw [← hs2.out]
      exact ⟨g2, n2.later hb, ua2.trans (.below hb), t2⟩
    have hq := hide hq
    clear hs2 hP2 n2
    rcases hk' with h9 | ⟨h9, hd⟩
    · have b9 : (p.kind == 9) = false := by simpa using h9
      clear h9
      go_wp2_with fail
      go_quiet (fail)
      go_wp2
      go_returns
      exact ⟨rfl, hfin.out _ (hq.out _)⟩
    · have b9 : (p.kind == 9) = true := by simpa using h9
      have bd : (p.dest != s1.me) = false := by simpa using hd
      clear h9 hd
      go_wp2_with fail
      go_quiet (fail)
      go_wp2
      go_returns
      exact ⟨rfl, hfin.out _ (hq.out _)⟩

/-- What the hearing of a frame leaves: a search may have ended. -/
def HrP (N B : Nat) (g : NdG) (s s2 : St) (TL : List Hp.Tm) (w w' : World) : Prop := ∃ TL', NdP N B g s s2 TL' w w' ∧ ∃ d, TmE d s TL s2 TL'
theorem HrP.of {N B : Nat} {g : NdG} {s s2 : St} {TL : List Hp.Tm} {w w' : World} (h : NdP N B g s s2 TL w w') (hQ : s2.Q = s.Q) : HrP N B g s s2 TL w w' := ⟨TL, h, 0, .inl ⟨rfl, hQ⟩⟩
theorem answer_Q (s : St) (p : Pkt) : (s.answer p).Q = s.Q := by
  unfold St.answer
  split <;> rfl
theorem asked_Q (s : St) (p : Pkt) : (s.asked p).Q = s.Q := by
  unfold St.asked St.answerSelf St.answerOther
  split
  · exact answer_Q _ _
  · split
    · exact answer_Q _ _
    · split <;> rfl
theorem learn_Q (s : St) (fr : Int) (p : Pkt) : (s.learn fr p).Q = s.Q := by
  unfold St.learn
  split
  · rfl
  · split <;> exact asked_Q _ _
theorem hearRequest_Q (s : St) (fr : Int) (p : Pkt) : (s.hearRequest fr p).Q = s.Q := by
  unfold St.hearRequest
  split
  · rfl
  · exact learn_Q _ _ _
theorem hearLose_Q (s : St) (fr : Int) (L : List (Int × Int)) : (s.hearLose fr L).Q = s.Q := by
  unfold St.hearLose
  dsimp only
  split <;> rfl
theorem hearData_Q (s : St) (fr : Int) (p : Pkt) : (s.hearData fr p).Q = s.Q := by
  unfold St.hearData
  split
  · rfl
  · split
    · rfl
    · split <;> rfl
theorem hearSilent_Q (s : St) (fr : Int) (p : Pkt) : (s.hearSilent fr p).Q = s.Q := by
  unfold St.hearSilent
  split <;> rfl
/-- A packet that was read. -/
theorem read_hd {x0 x1 x2 x3 x4 : Int} {r : List Int} (ao : Option Addr) (c : Nat) (hb : ∀ x ∈ x0 :: x1 :: x2 :: x3 :: x4 :: r, 0 ≤ x ∧ x ≤ 255) (hF : isF (x0 :: x1 :: x2 :: x3 :: x4 :: r) = true) :
    ({ pkOf x0 x1 x2 x4 r with la := ao, lc := c } : Pkt).Hd ∧ (x1 = 1 ∨ x1 = 2 ∨ x1 = 3 ∨ x1 = 9) ∧ (pkOf x0 x1 x2 x4 r).kind = x1 := by
  have h1 := pkOf_wf (x2 := x2) (fun y hy => hb y (by simp [hy])) (hb x0 (by simp)) (hb x1 (by simp)) (hb x4 (by simp)) (r := r)
  have hg : (pkOf x0 x1 x2 x4 r).goodB = true := by
    simp only [isF, Bool.and_eq_true] at hF
    exact hF.2
  obtain ⟨_, t0, t1, q0, q1, _, hk⟩ := good_parts hg
  have hkk : (pkOf x0 x1 x2 x4 r).kind = x1 := by
    unfold pkOf
    split
    · rename_i h; exact h.symm
    split
    · rename_i h; exact h.symm
    split
    · rename_i h; exact h.symm
    split
    · rename_i h; exact h.symm
    · rfl
  refine ⟨⟨⟨h1.1, h1.2, h1.3, h1.4, h1.5, h1.6, h1.7, h1.8, h1.9, h1.10, h1.11, h1.12, h1.13, h1.14, h1.15, h1.16, h1.17, h1.18, h1.19, h1.20⟩, ⟨t0, t1⟩, ⟨q0, q1⟩⟩, ?_, hkk⟩
  rw [hkk] at hk
  rcases hk with h | h | h | ⟨h, _⟩
  · exact .inl h
  · exact .inr (.inl h)
  · exact .inr (.inr (.inr h))
  · exact .inr (.inr (.inl h))

theorem table_1 (w : World) : (Instr.index 199 (.agg #[.nilFunc, .func (.func 130) #[] #[], .func (.func 131) #[] #[], .func (.func 132) #[] #[], .nilFunc, .nilFunc, .nilFunc, .nilFunc, .nilFunc, .func (.func 133) #[] #[]]) (.int .i64 1)).run Tryz.prog w = .ok (.func (.func 130) #[] #[]) w := by kernel_rfl

theorem table_2 (w : World) : (Instr.index 199 (.agg #[.nilFunc, .func (.func 130) #[] #[], .func (.func 131) #[] #[], .func (.func 132) #[] #[], .nilFunc, .nilFunc, .nilFunc, .nilFunc, .nilFunc, .func (.func 133) #[] #[]]) (.int .i64 2)).run Tryz.prog w = .ok (.func (.func 131) #[] #[]) w := by kernel_rfl

theorem table_3 (w : World) : (Instr.index 199 (.agg #[.nilFunc, .func (.func 130) #[] #[], .func (.func 131) #[] #[], .func (.func 132) #[] #[], .nilFunc, .nilFunc, .nilFunc, .nilFunc, .nilFunc, .func (.func 133) #[] #[]]) (.int .i64 3)).run Tryz.prog w = .ok (.func (.func 132) #[] #[]) w := by kernel_rfl

theorem table_9 (w : World) : (Instr.index 199 (.agg #[.nilFunc, .func (.func 130) #[] #[], .func (.func 131) #[] #[], .func (.func 132) #[] #[], .nilFunc, .nilFunc, .nilFunc, .nilFunc, .nilFunc, .func (.func 133) #[] #[]]) (.int .i64 9)).run Tryz.prog w = .ok (.func (.func 133) #[] #[]) w := by kernel_rfl

set_option maxRecDepth 100000 in
set_option maxHeartbeats 8000000 in
theorem N_hear {N B : Nat} {g : NdG} {s : St} {TL : List Hp.Tm} {w : World} (n : Nd N B g s TL w) (hF : s.Fine) (htn : s.tn ≤ 4000000000000000000) (htl : TL.length ≤ 1000000) (fr : Int) (hfr : U32 fr) (v : Value) (xs : List Int) (hv : RestV w v xs) :
    Calls Tryz.prog 59 #[.pointer (some ⟨N, 0, none⟩), .pointer (some ⟨B, 0, none⟩), .int .u32 fr, v] w fun e w' => e = .returned (.tuple #[]) ∧ HrP N B g s (s.hear fr xs) TL w w' := by
  have hby := hv.1
  have HD := hide (Decode_any v xs w hv)
  clear hv
  obtain ⟨s2, hans⟩ : ∃ s2, s.hear fr xs = s2 := ⟨_, rfl⟩
  rw [hans]
  replace hans := hide hans
  have hfl : s.frs.length ≤ 900000 := hF.frs
  have hdl : s.drs.length ≤ 900000 := hF.drs
  go_enter Tryz.func59, Tryz.ntmps59
  go_wp2_with fail
  refine Calls.mono HD.out ?_
  rintro e w1 ⟨hb1, h⟩
  have n1 := n.later hb1
  clear HD
  rcases h with ⟨hFt, v1, rfl, x0, x1, x2, x3, x4, r, ao, c, hxs, hv1, hlen, hA, hfrs⟩ | ⟨hFt, rfl⟩
  · subst hxs
    obtain ⟨hq, hk, hkk⟩ := read_hd (ao := ao) (c := c) hby hFt
    have hs2 : Hid ((if fr = 0 ∨ fr = s.me then s.drop 0 else s.hearPkt fr { pkOf x0 x1 x2 x4 r with la := ao, lc := c } (lsOf x1 x4 r)) = s2) := by
      show _ = _
      rw [← hans.out, hearPkt_la]
      unfold St.hear
      rw [hFt]
      by_cases h : fr = 0 ∨ fr = s.me
      · rw [if_pos h, if_pos (.inr h)]
      · rw [if_neg h, if_neg (by rintro (h1 | h1); · cases h1
                                 · exact h h1)]
        rfl
    have hL1 : HoldsL w1 { pkOf x0 x1 x2 x4 r with la := ao, lc := c } (lsOf x1 x4 r) := ⟨hlen, hA⟩
    have hap : ∀ b, ao = some b → ¬ Ft N g s b.block := fun b hb => n.new (hfrs b hb)
    have hL0 : x1 ≠ 3 → lsOf x1 x4 r = [] := fun h => by unfold lsOf; rw [if_neg h]
    have hpk : ({ pkOf x0 x1 x2 x4 r with la := ao, lc := c } : Pkt).kind = x1 := hkk
    have hpa : ({ pkOf x0 x1 x2 x4 r with la := ao, lc := c } : Pkt).la = ao := rfl
    generalize ({ pkOf x0 x1 x2 x4 r with la := ao, lc := c } : Pkt) = p at hv1 hq hs2 hL1 hpk hpa
    generalize lsOf x1 x4 r = L at hs2 hL1 hL0
    subst hv1 hpa
    have hap : LsApart N g s p.la := hap
    clear hby hFt hlen hA hfrs hans hkk
    rw [← hpk] at hk hL0
    clear hpk
    have hp := hq.wf
    have hb2 : Below w1.heap.size w1 (w1.alloc p.box) := (Below.refl _ _).alloc (Nat.le_refl _) _
    have hP2 := PB.new p w1
    have n2 := n1.later hb2
    have hb02 := hb1.trans (hb2.mono hb1.size)
    have hL2 := hL1.below hb2
    clear n1 hL1 hb2
    dsimp only [Pkt.box] at n2 hb02 hL2
    unfold PB at hP2
    dsimp only [Pkt.box] at hP2
    dsimp only [Pkt.val]
    go_upto_region 2 with (fail)
    generalize World.alloc _ _ = W2 at hP2 n2 hb02 hL2 ⊢
    generalize w1.heap.size = C at hP2 ⊢
    obtain ⟨c2, c3, c4, c7, c0⟩ := n2.cell
    obtain ⟨p0, p1, p2, p3, p4, p5, p6, p7, p8, p9, p10, p11⟩ := PB.cell hP2
    by_cases hf : fr = 0 ∨ fr = s.me
    · replace hs2 := hide ((if_pos hf).symm.trans hs2.out)
      have HX := hide (N_drop n2 0 (by omega))
      rw [hs2.out] at HX
      have hQ : Hid (s2.Q = s.Q) := by show _ = _; rw [← hs2.out]; rfl
      have hfin : Hid (∀ w9, NdP N B g s s2 TL W2 w9 → HrP N B g s s2 TL w w9) := fun w9 h => .of (h.pre hb02) hQ.out
      have hf' : fr = 0 ∨ (¬ fr = 0 ∧ fr = s.me) := by
        by_cases h : fr = 0
        · exact .inl h
        · exact .inr ⟨h, hf.resolve_left h⟩
      clear hs2 hQ hb02 hf n2 hL2 hP2 hap
      rcases hf' with h | ⟨h, h'⟩
      · have b0 : (fr == 0) = true := by simpa using h
        clear h
        go_wp2_with fail
        refine Calls.mono HX.out ?_
        rintro e w9 ⟨rfl, hN⟩
        have hfin' := hide (hfin.out _ hN)
        clear hN HX
        go_wp2
        go_returns
        exact ⟨rfl, hfin'.out⟩
      · have b0 : (fr == 0) = false := by simpa using h
        have b1 : (fr == s.me) = true := by simpa using h'
        clear h h'
        go_wp2_with fail
        refine Calls.mono HX.out ?_
        rintro e w9 ⟨rfl, hN⟩
        have hfin' := hide (hfin.out _ hN)
        clear hN HX
        go_wp2
        go_returns
        exact ⟨rfl, hfin'.out⟩
    · replace hs2 := hide ((if_neg hf).symm.trans hs2.out)
      have b0 : (fr == 0) = false := by
        have : ¬ fr = 0 := fun h => hf (.inl h)
        simpa using this
      have b1 : (fr == s.me) = false := by
        have : ¬ fr = s.me := fun h => hf (.inr h)
        simpa using this
      clear hf
      go_wp2_with fail
      by_cases hsil : s.now < s.sil
      · have bs : decide (s.now < s.sil) = true := decide_eq_true hsil
        have hs3 : Hid (s.hearSilent fr p = s2) := by
          show _ = _
          rw [← hs2.out]
          unfold St.hearPkt
          rw [if_pos hsil]
        have HX : Hid (∀ W5, Below W2.heap.size W2 W5 → Calls Tryz.prog 93 #[.pointer (some ⟨N, 0, none⟩), .pointer (some ⟨B, 0, none⟩), .int .u32 fr, p.val] W5 fun e w' => e = .returned (.tuple #[]) ∧ HrP N B g s s2 TL w w') := by
          intro W5 h5
          refine (N_hearSilent (n2.later h5) fr p hp hF.now (by omega) (by omega)).mono ?_
          rintro e w9 ⟨rfl, hN⟩
          rw [hs3.out] at hN
          exact ⟨rfl, .of (hN.pre (hb02.trans (h5.mono hb02.size))) (by rw [← hs3.out]; exact hearSilent_Q _ _ _)⟩
        dsimp only [Pkt.val] at HX
        clear hs2 hs3 hsil
        go_quiet (fail)
        generalize hg : World.drewN _ _ = W3
        obtain ⟨hP3, hb3⟩ := (show ∀ q w3, W2.drewN q = w3 → PB p C w3 ∧ Below W2.heap.size W2 w3 from by
          rintro q _ rfl
          have hbq : Below W2.heap.size W2 (W2.drewN q) := below_drewN (Below.refl _ _) q
          exact ⟨PB.below hP2 hbq, hbq⟩) _ _ hg
        clear hg n2 hP2 c2 c3 c4 c7 c0 p0 p1 p2 p3 p4 p5 p6 p7 p8 p9 p10 p11
        obtain ⟨p0, p1, p2, p3, p4, p5, p6, p7, p8, p9, p10, p11⟩ := PB.cell hP3
        go_wp2_with fail
        refine Calls.mono (HX.out _ hb3) ?_
        rintro e w9 ⟨rfl, hN⟩
        replace hN := hide hN
        clear HX hb3 hP3 p0 p1 p2 p3 p4 p5 p6 p7 p8 p9 p10 p11
        go_wp2
        go_returns
        exact ⟨rfl, hN.out⟩
      · have bs : decide (s.now < s.sil) = false := decide_eq_false hsil
        go_quiet (fail)
        generalize hg : World.drewN _ _ = W3
        obtain ⟨n3, hP3, hb3⟩ := (show ∀ q w3, W2.drewN q = w3 → Nd N B g s TL w3 ∧ PB p C w3 ∧ Below W2.heap.size W2 w3 from by
          rintro q _ rfl
          have hbq : Below W2.heap.size W2 (W2.drewN q) := below_drewN (Below.refl _ _) q
          exact ⟨n2.later hbq, PB.below hP2 hbq, hbq⟩) _ _ hg
        have hL3 := hL2.below hb3
        have hb03 := hb02.trans (hb3.mono hb02.size)
        clear hg n2 hP2 hL2 hb02 hb3 c2 c3 c4 c7 c0 p0 p1 p2 p3 p4 p5 p6 p7 p8 p9 p10 p11 bs b0 b1
        have HH : Hid (∀ W', Below W3.heap.size W3 W' → Calls Tryz.prog 94 #[] W' fun e w5 => e = .returned (.agg #[.nilFunc, .func (.func 130) #[] #[], .func (.func 131) #[] #[], .func (.func 132) #[] #[], .nilFunc, .nilFunc, .nilFunc, .nilFunc, .nilFunc, .func (.func 133) #[] #[]]) ∧ Below W3.heap.size W3 w5) := by
          intro W' h
          refine (hearers_any W').mono ?_
          rintro e w5 ⟨rfl, h5⟩
          exact ⟨rfl, h.trans (h5.mono h.size)⟩
        have HC5 : Hid (∀ W5, Below W3.heap.size W3 W5 → W5.cell? ⟨C, 0, none⟩ = some (.int .i64 p.ttl) ∧ W5.cell? ⟨C, 1, none⟩ = some (.int .i64 p.kind) ∧ W5.cell? ⟨C, 2, none⟩ = some (.int .i64 p.hops) ∧ W5.cell? ⟨C, 3, none⟩ = some (.bool p.unk) ∧ W5.cell? ⟨C, 4, none⟩ = some (.int .u32 p.id) ∧ W5.cell? ⟨C, 5, none⟩ = some (.int .u32 p.dest) ∧ W5.cell? ⟨C, 6, none⟩ = some (.int .u32 p.dseq) ∧ W5.cell? ⟨C, 7, none⟩ = some (.int .u32 p.frm) ∧ W5.cell? ⟨C, 8, none⟩ = some (.int .u32 p.fseq) ∧ W5.cell? ⟨C, 9, none⟩ = some (.int .u32 p.life) ∧ W5.cell? ⟨C, 10, none⟩ = some (.slice p.la p.ln p.lc) ∧ W5.cell? ⟨C, 11, none⟩ = some (.string p.pay)) := fun W5 h5 => PB.cell (PB.below hP3 h5)
        rcases hk with hk | hk | hk | hk
        · have hs3 : Hid (s.hearRequest fr p = s2) := by
            show _ = _
            rw [← hs2.out]
            unfold St.hearPkt
            rw [if_neg hsil, hk]
            rfl
          have HX : Hid (∀ W5, Below W3.heap.size W3 W5 → Calls Tryz.prog 130 #[.pointer (some ⟨N, 0, none⟩), .pointer (some ⟨B, 0, none⟩), .int .u32 fr, p.val] W5 fun e w' => e = .returned (.tuple #[]) ∧ HrP N B g s s2 TL w w') := by
            intro W5 h5
            refine (N_hearRequest (n3.later h5) hF htn fr hfr p hq (by have := hL3.below h5; rwa [hL0 (by omega)] at this)).mono ?_
            rintro e w9 ⟨rfl, hN⟩
            rw [hs3.out] at hN
            exact ⟨rfl, .of (hN.pre (hb03.trans (h5.mono hb03.size))) (by rw [← hs3.out]; exact hearRequest_Q _ _ _)⟩
          have hix := table_1
          dsimp only [Pkt.val] at HX
          rw [hk] at HC5 HX
          clear hs2 hs3 hsil hL3 hL0 hap n3 hP3 hq hp hk hb03
          obtain ⟨p0, p1, p2, p3, p4, p5, p6, p7, p8, p9, p10, p11⟩ := HC5.out _ (Below.refl _ _)
          go_wp2_with fail
          go_region_law (first
            | (go_simp; go_at_call 94; refine (HH.out _ (by first | exact Below.refl _ _ | exact (Below.refl _ _).drew | exact below_drewN (Below.refl _ _) _)).mono ?_; rintro e w5 ⟨rfl, hb5⟩; obtain ⟨q0, q1, q2, q3, q4, q5, q6, q7, q8, q9, q10, q11⟩ := HC5.out _ hb5)
            | (go_simp; go_at_call 130; refine (HX.out _ (by first | exact hb5 | exact hb5.drew | exact below_drewN hb5 _)).mono ?_; rintro e w9 ⟨rfl, hN⟩; replace hN := hide hN))
          all_goals
            go_wp2
            go_returns
            exact ⟨rfl, hN.out⟩
        · have hs3 : Hid (s.hearReply fr p = s2) := by
            show _ = _
            rw [← hs2.out]
            unfold St.hearPkt
            rw [if_neg hsil, hk]
            rfl
          have HX : Hid (∀ W5, Below W3.heap.size W3 W5 → Calls Tryz.prog 131 #[.pointer (some ⟨N, 0, none⟩), .pointer (some ⟨B, 0, none⟩), .int .u32 fr, p.val] W5 fun e w' => e = .returned (.tuple #[]) ∧ HrP N B g s s2 TL w w') := by
            intro W5 h5
            refine (N_hearReply (n3.later h5) fr hfr p hq (by have := hL3.below h5; rwa [hL0 (by omega)] at this) hF.me hF.now (by omega) (by omega) htl).mono ?_
            rintro e w9 ⟨rfl, TL', hN, hT⟩
            rw [hs3.out] at hN hT
            exact ⟨rfl, TL', hN.pre (hb03.trans (h5.mono hb03.size)), _, hT⟩
          have hix := table_2
          dsimp only [Pkt.val] at HX
          rw [hk] at HC5 HX
          clear hs2 hs3 hsil hL3 hL0 hap n3 hP3 hq hp hk hb03
          obtain ⟨p0, p1, p2, p3, p4, p5, p6, p7, p8, p9, p10, p11⟩ := HC5.out _ (Below.refl _ _)
          go_wp2_with fail
          go_region_law (first
            | (go_simp; go_at_call 94; refine (HH.out _ (by first | exact Below.refl _ _ | exact (Below.refl _ _).drew | exact below_drewN (Below.refl _ _) _)).mono ?_; rintro e w5 ⟨rfl, hb5⟩; obtain ⟨q0, q1, q2, q3, q4, q5, q6, q7, q8, q9, q10, q11⟩ := HC5.out _ hb5)
            | (go_simp; go_at_call 131; refine (HX.out _ (by first | exact hb5 | exact hb5.drew | exact below_drewN hb5 _)).mono ?_; rintro e w9 ⟨rfl, hN⟩; replace hN := hide hN))
          all_goals
            go_wp2
            go_returns
            exact ⟨rfl, hN.out⟩
        · have hs3 : Hid (s.hearLose fr L = s2) := by
            show _ = _
            rw [← hs2.out]
            unfold St.hearPkt
            rw [if_neg hsil, hk]
            rfl
          have HX : Hid (∀ W5, Below W3.heap.size W3 W5 → Calls Tryz.prog 132 #[.pointer (some ⟨N, 0, none⟩), .pointer (some ⟨B, 0, none⟩), .int .u32 fr, p.val] W5 fun e w' => e = .returned (.tuple #[]) ∧ HrP N B g s s2 TL w w') := by
            intro W5 h5
            refine (N_hearLose (n3.later h5) fr hfr p hp L (hL3.below h5) hap (by omega) (by omega)).mono ?_
            rintro e w9 ⟨rfl, hN⟩
            rw [hs3.out] at hN
            exact ⟨rfl, .of (hN.pre (hb03.trans (h5.mono hb03.size))) (by rw [← hs3.out]; exact hearLose_Q _ _ _)⟩
          have hix := table_3
          dsimp only [Pkt.val] at HX
          rw [hk] at HC5 HX
          clear hs2 hs3 hsil hL3 hL0 hap n3 hP3 hq hp hk hb03
          obtain ⟨p0, p1, p2, p3, p4, p5, p6, p7, p8, p9, p10, p11⟩ := HC5.out _ (Below.refl _ _)
          go_wp2_with fail
          go_region_law (first
            | (go_simp; go_at_call 94; refine (HH.out _ (by first | exact Below.refl _ _ | exact (Below.refl _ _).drew | exact below_drewN (Below.refl _ _) _)).mono ?_; rintro e w5 ⟨rfl, hb5⟩; obtain ⟨q0, q1, q2, q3, q4, q5, q6, q7, q8, q9, q10, q11⟩ := HC5.out _ hb5)
            | (go_simp; go_at_call 132; refine (HX.out _ (by first | exact hb5 | exact hb5.drew | exact below_drewN hb5 _)).mono ?_; rintro e w9 ⟨rfl, hN⟩; replace hN := hide hN))
          all_goals
            go_wp2
            go_returns
            exact ⟨rfl, hN.out⟩
        · have hs3 : Hid (s.hearData fr p = s2) := by
            show _ = _
            rw [← hs2.out]
            unfold St.hearPkt
            rw [if_neg hsil, hk]
            rfl
          have HX : Hid (∀ W5, Below W3.heap.size W3 W5 → Calls Tryz.prog 133 #[.pointer (some ⟨N, 0, none⟩), .pointer (some ⟨B, 0, none⟩), .int .u32 fr, p.val] W5 fun e w' => e = .returned (.tuple #[]) ∧ HrP N B g s s2 TL w w') := by
            intro W5 h5
            refine (N_hearData (n3.later h5) fr hfr p hq (by have := hL3.below h5; rwa [hL0 (by omega)] at this) hF.now (by omega) (by omega) (by have := hF.cms; omega)).mono ?_
            rintro e w9 ⟨rfl, hN⟩
            rw [hs3.out] at hN
            exact ⟨rfl, .of (hN.pre (hb03.trans (h5.mono hb03.size))) (by rw [← hs3.out]; exact hearData_Q _ _ _)⟩
          have hix := table_9
          dsimp only [Pkt.val] at HX
          rw [hk] at HC5 HX
          clear hs2 hs3 hsil hL3 hL0 hap n3 hP3 hq hp hk hb03
          obtain ⟨p0, p1, p2, p3, p4, p5, p6, p7, p8, p9, p10, p11⟩ := HC5.out _ (Below.refl _ _)
          go_wp2_with fail
          go_region_law (first
            | (go_simp; go_at_call 94; refine (HH.out _ (by first | exact Below.refl _ _ | exact (Below.refl _ _).drew | exact below_drewN (Below.refl _ _) _)).mono ?_; rintro e w5 ⟨rfl, hb5⟩; obtain ⟨q0, q1, q2, q3, q4, q5, q6, q7, q8, q9, q10, q11⟩ := HC5.out _ hb5)
            | (go_simp; go_at_call 133; refine (HX.out _ (by first | exact hb5 | exact hb5.drew | exact below_drewN hb5 _)).mono ?_; rintro e w9 ⟨rfl, hN⟩; replace hN := hide hN))
          all_goals
            go_wp2
            go_returns
            exact ⟨rfl, hN.out⟩
  · have hs2 : Hid (s.drop 0 = s2) := by
      show _ = _
      rw [← hans.out]
      unfold St.hear
      rw [if_pos (.inl hFt)]
    have hb2 : Below w1.heap.size w1 (w1.alloc Pkt.zero.box) := (Below.refl _ _).alloc (Nat.le_refl _) _
    have n2 := n1.later hb2
    have hb02 := hb1.trans (hb2.mono hb1.size)
    have HX := hide (N_drop n2 0 (by omega))
    rw [hs2.out] at HX
    have hQ : Hid (s2.Q = s.Q) := by show _ = _; rw [← hs2.out]; rfl
    clear hs2 hans n1 hb2
    dsimp only [Pkt.box, Pkt.zero] at HX hb02 n2
    dsimp only [Pkt.val, Pkt.zero]
    go_upto_region 3 with (fail)
    generalize World.alloc _ _ = W2 at HX hb02 n2 ⊢
    go_wp2_with fail
    refine Calls.mono HX.out ?_
    rintro e w9 ⟨rfl, hN⟩
    have hfin' : Hid (HrP N B g s s2 TL w w9) := .of (hN.pre hb02) hQ.out
    clear hN HX
    go_wp2
    go_returns
    exact ⟨rfl, hfin'.out⟩

end Go.Proofs.YtakaadcpaeiccabGreat

namespace Go.Proofs.YtakaadcpaeiccabGreat
open Go.RowKit Go.Maps Go.MuLone

set_option maxRecDepth 100000 in
set_option maxHeartbeats 8000000 in
theorem N_Receive {N : Nat} {g : NdG} {s : St} {TL : List Hp.Tm} {w : World} (n : Nn N g s TL w) {k : Int} (hI : s.Inv k) (hk : k ≤ 100000000000) (hT : TmOk s TL) (now fr : Int) (hnow : s.now ≤ now ∧ now ≤ 4611686018427387904) (hfr : U32 fr) (v : Value) (xs : List Int) (hv : VB w v xs) :
    Calls Tryz.prog 25 #[.pointer (some ⟨N, 0, none⟩), .int .u64 now, .int .u32 fr, v] w fun e w' => ∃ o, e = .returned o ∧ Hid ((s.rcv now fr xs).Inv (k + 1)) ∧ CallP N g s (s.rcv now fr xs) w o w' := by
  have hA := n.cr.tb.ok
  have hl := n.cr.tb.len
  have hb0 : Below w.heap.size w (w.alloc outZ) := (Below.refl _ _).alloc (Nat.le_refl _) _
  have hC0 : (w.alloc outZ).heap[w.heap.size]? = some outZ := heap_alloc_new _ _
  have hCn : ¬ Ft N g s w.heap.size := fun h => by have := n.lt h; omega
  have hs0 : (w.alloc outZ).heap.size = w.heap.size + 1 := by simp
  have n0 := n.later hb0
  have hv0 := hv.later hb0
  have hM := (mid_lock hI).2 now hnow hA hl
  obtain ⟨s3, hs3⟩ : ∃ z, s.locked.begin now = z := ⟨_, rfl⟩
  rw [hs3] at hM
  have hlk3 : Hid (s3.lk = 1) := by show _ = _; rw [← hs3]; rfl
  have hQ3 : Hid (s3.Q = s.Q) := by show _ = _; rw [← hs3]; rfl
  have hnow3 : Hid (s3.now = now) := by show _ = _; rw [← hs3]; rfl
  have hme3 : Hid (s3.me = s.me) := by show _ = _; rw [← hs3]; rfl
  replace hM := hide hM
  dsimp only [outZ] at hb0 hC0 hs0 n0 hv0
  go_enter_defers Tryz.func25, Tryz.ntmps25
  go_upto_region 1 with (fail)
  generalize World.alloc _ _ = W1 at hb0 hC0 hs0 n0 hv0 ⊢
  obtain ⟨c0, f0⟩ := n0.lkd
  rw [hI.lk] at c0
  go_wp2_with fail
  refine Calls.mono (lock_free muLib ⟨N, 0, none⟩ W1 c0 f0) ?_
  rintro e w2 ⟨rfl, rfl⟩
  obtain ⟨n2, hg2⟩ := n0.setLk 1
  have hf2 : Fx (Ft N g s) w (W1.setCell ⟨N, 0, none⟩ (.int .i32 1)) := grown_Fx (Fx.below hb0) hg2 (fun i _ e => by cases e; exact .inl (.inl rfl))
  have hv2 := n0.vb hv0 (Fx.grown hg2 fun k e => by cases e; exact .inl (.inl rfl))
  have hC2 := (hg2.block w.heap.size (by omega) (fun e => hCn (by cases e; exact .inl (.inl rfl)))).trans hC0
  have hs2 : w.heap.size + 1 ≤ (W1.setCell ⟨N, 0, none⟩ (.int .i32 1)).heap.size := by
    have := hg2.size
    omega
  have hcn := hI.cnt
  have HB := hide (N_begin n2 now ⟨hI.dom.mb, hI.dom.on, hI.dom.own⟩ ⟨hcn.1, by dsimp only; omega⟩)
  rw [show ({ s with lk := 1 } : St).begin now = s3 from hs3] at HB
  have hF1 : Hid (∀ k, Ft N ({ g with x := { g.x with lk := 1 } } : NdG) ({ s with lk := 1 } : St) k → Ft N g s k) := fun k h => h
  replace hs3 := hide hs3
  clear n0 hv0 hC0 hs0 hb0 c0 f0 hg2 hA hl hcn
  generalize ({ g with x := { g.x with lk := 1 } } : NdG) = g1 at n2 HB hF1
  generalize ({ s with lk := 1 } : St) = s1 at n2 HB hF1
  generalize World.setCell _ _ _ = W2 at n2 hf2 hv2 hC2 hs2 HB ⊢
  go_wp2_with fail
  refine Calls.mono HB.out ?_
  rintro e w3 ⟨g3, rfl, n3, u3, fx3, t3⟩
  clear t3
  have hv3 := n2.vb hv2 fx3
  clear HB
  have hT3 : Hid (TmOk s3 TL) := by
    show TmOk _ _
    unfold TmOk
    rw [hQ3.out]
    exact hT
  have hlen := n3.nn.qlen hT3.out
  have hF3 := hM.out.fine (by omega)
  have HH := hide (N_hear n3 hF3 (by have := hM.out.tn; omega) (by omega) fr hfr v xs hv3.1)
  have hids := hide n3.nn.ids
  have hnod := hide n3.nn.rs.sr.nod
  have hok4 : Hid (∀ q ∈ s3.Q, q.txt.length ≤ 4) := fun q hq => (n3.nn.rs.sr.ok q hq).txt
  have hpk : Hid (Eff 5 s3 (s3.hear fr xs)) := eff_hear s3 fr xs hv3.1.1 hok4.out
  clear hv2 hv3 fx3 n2 n3
  go_wp2_with fail
  refine Calls.mono HH.out ?_
  rintro e w5 ⟨rfl, TL5, ⟨g5, n5, u5, t5⟩, d5, hTm⟩
  obtain ⟨s5, hs5⟩ : ∃ z, s3.hear fr xs = z := ⟨_, rfl⟩
  rw [hs5] at n5 u5 hTm hpk
  have hT5 : Hid (TmOk s5 TL5) := tmE_ok hTm hT3.out hids.out hnod.out
  have hM5 : Hid (s5.Mid k 6) := mid_eff hM.out hpk.out
  have hlk5 : Hid (s5.lk = 1) := hpk.out.lk.trans hlk3.out
  have ua5 := u3.trans u5
  replace hs5 := hide hs5
  clear HH u3 u5 hTm hids hnod hok4 hpk hF3 hlen
  have hI5 := hide (inv_freed hM5.out (by omega) n5.nn.cr.tb.ok n5.nn.cr.tb.len)
  have HFn := hide (N_finish n5 hM5.out.dom (by have := hM5.out.cnt; omega) (by have := hM5.out.nws; omega) hM5.out.bd hM5.out.seq)
  go_wp2_with fail
  refine Calls.mono HFn.out ?_
  rintro e w6 ⟨g6, rfl, n6, u6, t6⟩
  obtain ⟨s6, hs6⟩ : ∃ z, s5.finish = z := ⟨_, rfl⟩
  have hlk6 : s6.lk = 1 := by rw [← hs6, (finish_same s5).lk]; exact hlk5.out
  have hT6 : Hid (TmOk s6 TL5) := by
    show TmOk _ _
    unfold TmOk
    rw [← hs6, (finish_same s5).Q]
    exact hT5.out
  have hfinal : Hid (s.rcv now fr xs = s6.freed) := by
    show _ = _
    rw [← hs6]
    unfold St.rcv St.receive
    rw [hs3.out, hs5.out]
  rw [hs6] at n6 u6 hI5 ⊢
  have ua6 := ua5.trans u6
  clear HFn hs6 u6 n5 ua5
  have fx6 := ua6.toFx (Nat.le_refl _)
  have hsub6 : ∀ k, Ft N g6 s6 k → Ft N g s k ∨ (w.heap.size ≤ k ∧ k < w6.heap.size) := fun k hk => (ua6.sub k hk).elim (fun h => .inl (hF1.out k h)) fun h => .inr ⟨by omega, h.2⟩
  have hC6 := (fx6.block w.heap.size (by omega) (fun h => hCn (hF1.out _ h))).trans hC2
  have hCn6 : ¬ Ft N g6 s6 w.heap.size := fun h => (ua6.sub _ h).elim (fun h => hCn (hF1.out _ h)) (by omega)
  have hf6 := hf2.trans fx6 (fun i _ h => hF1.out i h)
  have r1 := ownsRow_base_a n6.ac.frm (show w.heap.size ≤ W2.heap.size + 1 by omega)
  have r2 := ownsRow_base_a n6.ac.cam (show w.heap.size ≤ W2.heap.size + 1 by omega)
  have r3 := ownsRow_base_a n6.ac.drp (show w.heap.size ≤ W2.heap.size + 1 by omega)
  have m6 := n6.nn
  obtain ⟨af, kf, hf, _⟩ := row_form r1
  obtain ⟨ac, kc, hc, _⟩ := row_form r2
  obtain ⟨ad, kd, hdd, _⟩ := row_form r3
  rw [hf] at r1
  rw [hc] at r2
  rw [hdd] at r3
  rw [hf, hc, hdd]
  simp only [outV]
  clear n6 hf hc hdd ua6 fx6 hf2 hC2
  generalize hjj : s6.jrn = jj
  replace hjj := hide hjj
  have z0 : w6.cell? ⟨w.heap.size, 0, none⟩ = some (.string ⟨#[]⟩) := cell_of_row _ _ 0 _ _ _ hC6
  have z1 : w6.cell? ⟨w.heap.size, 1, none⟩ = some (.bool false) := cell_of_row _ _ 1 _ _ _ hC6
  have z2 : w6.cell? ⟨w.heap.size, 2, none⟩ = some (.slice none 0 0) := cell_of_row _ _ 2 _ _ _ hC6
  have z3 : w6.cell? ⟨w.heap.size, 3, none⟩ = some (.slice none 0 0) := cell_of_row _ _ 3 _ _ _ hC6
  have z4 : w6.cell? ⟨w.heap.size, 4, none⟩ = some (.slice none 0 0) := cell_of_row _ _ 4 _ _ _ hC6
  have y0 := frozen_of_row w6 w.heap.size 0 _ _ hC6
  have y1 := frozen_of_row w6 w.heap.size 1 _ _ hC6
  have y2 := frozen_of_row w6 w.heap.size 2 _ _ hC6
  have y3 := frozen_of_row w6 w.heap.size 3 _ _ hC6
  have y4 := frozen_of_row w6 w.heap.size 4 _ _ hC6
  have hgC := grown_cellOf (grown_cellOf (grown_cellOf (grown_cellOf (grown_cellOf (grown_self w6 (some w.heap.size)) 0 (.string jj)) 1 (.bool s6.rep)) 2 (.slice af s6.frs.length kf)) 3 (.slice ac s6.cms.length kc)) 4 (.slice ad s6.drs.length kd)
  have hC7 : (((((w6.setCell ⟨w.heap.size, 0, none⟩ (.string jj)).setCell ⟨w.heap.size, 1, none⟩ (.bool s6.rep)).setCell ⟨w.heap.size, 2, none⟩ (.slice af s6.frs.length kf)).setCell ⟨w.heap.size, 3, none⟩ (.slice ac s6.cms.length kc)).setCell ⟨w.heap.size, 4, none⟩ (.slice ad s6.drs.length kd)).heap[w.heap.size]? = some (.cells #[.string jj, .bool s6.rep, .slice af s6.frs.length kf, .slice ac s6.cms.length kc, .slice ad s6.drs.length kd] 52) := by
    simp [World.setCell, Array.getElem?_modify, hC6]
  have r1 := r1.kept hgC (.inr (row_not r1 hC6 (fun c e => (by cases e))))
  have r2 := r2.kept hgC (.inr (row_not r2 hC6 (fun c e => (by cases e))))
  have r3 := r3.kept hgC (.inr (row_not r3 hC6 (fun c e => (by cases e))))
  have m7 := m6.kept fun k hk => hgC.block k (m6.lt hk) (fun e => hCn6 (by cases e; exact hk))
  have hf7 := grown_Fx hf6 hgC (fun i hi e => by cases e; omega)
  have hsub7 := fun k hk => (hsub6 k hk).imp_right fun h => (⟨h.1, Nat.lt_of_lt_of_le h.2 hgC.size⟩ : w.heap.size ≤ k ∧ _)
  clear m6 hgC hf6 hC6 hsub6
  go_wp2_with fail
  generalize World.setCell _ _ _ = W7 at hC7 r1 r2 r3 m7 hf7 hsub7 ⊢
  have p0 : W7.cell? ⟨w.heap.size, 0, none⟩ = some (.string jj) := cell_of_row _ _ 0 _ _ _ hC7
  have p1 : W7.cell? ⟨w.heap.size, 1, none⟩ = some (.bool s6.rep) := cell_of_row _ _ 1 _ _ _ hC7
  have p2 : W7.cell? ⟨w.heap.size, 2, none⟩ = some (.slice af s6.frs.length kf) := cell_of_row _ _ 2 _ _ _ hC7
  have p3 : W7.cell? ⟨w.heap.size, 3, none⟩ = some (.slice ac s6.cms.length kc) := cell_of_row _ _ 3 _ _ _ hC7
  have p4 : W7.cell? ⟨w.heap.size, 4, none⟩ = some (.slice ad s6.drs.length kd) := cell_of_row _ _ 4 _ _ _ hC7
  obtain ⟨c0, f0⟩ := m7.lkd
  rw [hlk6] at c0
  refine leaves_cons (f := 50) (args := #[.pointer (some ⟨N, 0, none⟩)]) (by simp) (by simp [go_sem]) ?_
  refine (unlock_deferred muLib ⟨N, 0, none⟩ .returning W7 c0 f0).mono ?_
  rintro e u' w'' ⟨rfl, rfl, rfl⟩
  obtain ⟨m8, hg8⟩ := m7.setLk 0
  have hNw : N ≠ w.heap.size := fun e => hCn6 (by rw [← e]; exact .inl (.inl rfl))
  have hC8 := (hg8.block w.heap.size (some_lt hC7) (fun e => by cases e; exact hNw rfl)).trans hC7
  have r1 := r1.kept hg8 (.inr (row_not r1 m7.cr.nd (fun c e => (by cases e))))
  have r2 := r2.kept hg8 (.inr (row_not r2 m7.cr.nd (fun c e => (by cases e))))
  have r3 := r3.kept hg8 (.inr (row_not r3 m7.cr.nd (fun c e => (by cases e))))
  have hf8 := grown_Fx hf7 hg8 (fun i hi e => by cases e; exact .inl (.inl rfl))
  have hsub8 := fun k hk => (hsub7 k hk).imp_right fun h => (⟨h.1, Nat.lt_of_lt_of_le h.2 hg8.size⟩ : w.heap.size ≤ k ∧ _)
  clear p0 p1 p2 p3 p4 c0 f0 hg8 m7 hf7 hsub7 hC7
  generalize World.setCell _ _ _ = W8 at hC8 r1 r2 r3 m8 hf8 hsub8 ⊢
  have p0 : W8.cell? ⟨w.heap.size, 0, none⟩ = some (.string jj) := cell_of_row _ _ 0 _ _ _ hC8
  have p1 : W8.cell? ⟨w.heap.size, 1, none⟩ = some (.bool s6.rep) := cell_of_row _ _ 1 _ _ _ hC8
  have p2 : W8.cell? ⟨w.heap.size, 2, none⟩ = some (.slice af s6.frs.length kf) := cell_of_row _ _ 2 _ _ _ hC8
  have p3 : W8.cell? ⟨w.heap.size, 3, none⟩ = some (.slice ac s6.cms.length kc) := cell_of_row _ _ 3 _ _ _ hC8
  have p4 : W8.cell? ⟨w.heap.size, 4, none⟩ = some (.slice ad s6.drs.length kd) := cell_of_row _ _ 4 _ _ _ hC8
  refine ⟨.agg #[.string jj, .bool s6.rep, .slice af s6.frs.length kf, .slice ac s6.cms.length kc, .slice ad s6.drs.length kd], by simp [results, Tryz.results25, go_sem, p0, p1, p2, p3, p4], _, rfl, ?_⟩
  rw [hfinal.out]
  refine ⟨hI5, _, TL5, .slice af s6.frs.length kf, .slice ac s6.cms.length kc, .slice ad s6.drs.length kd, ?_, m8, hT6.out, r1, r2, r3, hf8, hsub8⟩
  rw [← hjj.out]
  rfl
end Go.Proofs.YtakaadcpaeiccabGreat
