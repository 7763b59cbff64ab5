import Derived.Test.YtakaadcpaeiccabGreatC38
import Derived.Test.YtakaadcpaeiccabGreatC08
import Derived.Deep.AppendSrc
import Derived.Lib.SliceRun
import Derived.Deep.RegionLaw
import Derived.Test.YtakaadcpaeiccabGreatC03
import Derived.Lib.UnsafeStr
import Derived.Laws.MakeOwn
import Derived.Lib.Strings
import Derived.Lib.BufferWrite
namespace Go.Proofs.YtakaadcpaeiccabGreat
open Go.RowKit Go.Maps

/-! A search asks, or waits to ask. -/
def St.waits (s : St) (q : Sr) (t : Int) (o : Bool) : St := { s with tl := s.tl + 1, Q := St.setQ s.Q { q with due := t, id := s.tl + 1, out := o } }
def St.askDue (s : St) (q : Sr) : Int := match s.holds with | some _ => s.now + 1000 | none => s.now + 80 * (q.ttl + 2) * 2 ^ q.ret
theorem ask_eq (s : St) (q : Sr) : s.ask q = match s.holds with | some r => (s.drop r).waits q (s.now + 1000) false | none => (s.request q.dest q.ttl).waits q (s.now + 80 * (q.ttl + 2) * 2 ^ q.ret) true := by
  unfold St.ask St.holds
  by_cases h : St.full s.pc s.now = true
  · rw [if_pos h, if_pos h]; rfl
  · rw [if_neg h, if_neg h]
    by_cases h2 : s.now < s.sil
    · rw [if_pos h2, if_pos h2]; rfl
    · rw [if_neg h2, if_neg h2]; rfl
/-- What an asking search leaves. -/
def AkP (N B : Nat) (g : NdG) (s s2 : St) (_TL TL' : List Hp.Tm) (w w' : World) : Prop :=
  ∃ g', Nd N B g' s2 TL' w' ∧ Up B (Ft N g s) (Ft N g' s2) w w' ∧ Hid (g'.x.T = g.x.T) ∧ Hid (g'.h = g.h ∧ g'.u = g.u)
theorem AkP.pre {N B : Nat} {g : NdG} {s s2 : St} {TL TL' : List Hp.Tm} {a b c : World} (hb : Below a.heap.size a b) (p : AkP N B g s s2 TL TL' b c) : AkP N B g s s2 TL TL' a c := by
  obtain ⟨g1, n1, u1, t1⟩ := p
  exact ⟨g1, n1, (Up.below hb).trans u1, t1⟩
theorem due_bd {s : St} {q : Sr} (ok : q.Ok) (hnow : 0 ≤ s.now ∧ s.now ≤ 4611686018427387904) : 0 ≤ s.now + 80 * (q.ttl + 2) * 2 ^ q.ret ∧ s.now + 80 * (q.ttl + 2) * 2 ^ q.ret < 18446744073709551616 ∧ 0 ≤ 80 * (q.ttl + 2) * 2 ^ q.ret ∧ 80 * (q.ttl + 2) * 2 ^ q.ret ≤ 8589934592 := by
  have h1 := ok.ttl
  have h2 := ok.ret
  have hr : q.ret = 0 ∨ q.ret = 1 ∨ q.ret = 2 := by omega
  rcases hr with hr | hr | hr <;> rw [hr] <;> simp <;> omega

theorem N_dropS {N B : Nat} {g : NdG} {s : St} {TL : List Hp.Tm} {w : World} (n : Nd N B g s TL w) (r : Int) (hd : s.drs.length ≤ 1000000) :
    Calls Tryz.prog 92 #[.pointer (some ⟨B, 0, none⟩), .int .i64 r] w fun e w' => e = .returned (.tuple #[]) ∧ NdS N B g s (s.drop r) TL w w' := by
  refine (drop_any B (B + 1) g.a s.nws s.frs s.cms s.drs r w n.ac n.base hd).mono ?_
  rintro e w' ⟨v7, rfl, h1, h2⟩
  obtain ⟨p, q⟩ := n.act (s' := s.drop r) h1 h2 (sameN_drop s r) n.now n.rep
  exact ⟨rfl, _, p, q, rfl, rfl, rfl⟩
set_option maxRecDepth 100000 in
set_option maxHeartbeats 8000000 in
theorem N_ask {N B : Nat} {g : NdG} {s : St} {TL : List Hp.Tm} {w : World} (n : Nd N B g s TL w) (hR : s.Rdy) (hdl : s.drs.length ≤ 900000) (q : Sr) (hq : q ∈ s.Q) (Bq : Nat) (hB : g.h q.dest = some Bq) (hl : TL.length ≤ 900000) (htl : 0 ≤ s.tl ∧ s.tl ≤ 4000000000000000000) (hid : ∀ x ∈ TL, x.2.1 ≤ s.tl) :
    Calls Tryz.prog 83 #[.pointer (some ⟨Bq, 0, none⟩), .pointer (some ⟨N, 0, none⟩), .pointer (some ⟨B, 0, none⟩)] w fun e w' => e = .returned (.tuple #[]) ∧ AkP N B g s (s.ask q) TL (TL ++ [(s.askDue q, s.tl + 1, q.dest)]) w w' := by
  have hmf : ∀ (fn : Fn) (first cap : Array Value) (w : World), (Instr.makeFunc fn first cap).run Tryz.prog w = .ok (.func fn first cap) w := fun _ _ _ _ => rfl
  have hok := n.nn.rs.sr.ok q hq
  have hnow := hR.now
  have HH := hide (N_holdsBack n hnow)
  obtain ⟨s9, hs9⟩ : ∃ z, s.ask q = z := ⟨_, rfl⟩
  obtain ⟨du, hdu⟩ : ∃ z, s.askDue q = z := ⟨_, rfl⟩
  rw [hs9, hdu]
  rw [ask_eq] at hs9
  unfold St.askDue at hdu
  obtain ⟨ho, hho⟩ : ∃ z, s.holds = z := ⟨_, rfl⟩
  rw [hho] at hs9 hdu HH
  replace hs9 := hide hs9
  replace hdu := hide hdu
  obtain ⟨_, _, _, _, c0⟩ := n.cell
  go_enter Tryz.func83, Tryz.ntmps83
  go_wp2_with fail
  refine Calls.mono HH.out ?_
  rintro e w1 ⟨rfl, rfl⟩
  clear HH
  cases ho with
  | some r =>
    replace hs9 : Hid ((s.drop r).waits q (s.now + 1000) false = s9) := hs9
    replace hdu : Hid (s.now + 1000 = du) := hdu
    have HX := hide (N_dropS n r (by omega))
    obtain ⟨s1, hs1⟩ : ∃ z, s.drop r = z := ⟨_, rfl⟩
    have h1 : Hid (s1.now = s.now ∧ s1.Q = s.Q ∧ s1.tl = s.tl) := by
      show _ ∧ _
      rw [← hs1]
      exact ⟨rfl, rfl, rfl⟩
    rw [hs1] at HX hs9
    clear hho hR n hs1
    simp only [Option.getD_some, Option.isSome_some]
    go_wp2_with fail
    refine Calls.mono HX.out ?_
    rintro e w2 ⟨rfl, g2, n2, u2, t2, y2⟩
    have HW : Hid (∀ t, t = s.now + 1000 → Calls Tryz.prog 121 #[.pointer (some ⟨Bq, 0, none⟩), .pointer (some ⟨N, 0, none⟩), .int .u64 t, .func (.func 83) #[.pointer (some ⟨Bq, 0, none⟩)] #[]] w2 fun e w' => e = .returned (.tuple #[]) ∧ AkP N B g s s9 TL (TL ++ [(du, s.tl + 1, q.dest)]) w1 w') := by
      rintro _ rfl
      refine (N_wait n2 q (by rw [h1.out.2.1]; exact hq) Bq (by rw [y2.out.1]; exact hB) (s.now + 1000) (by omega) false hl (by rw [h1.out.2.2]; exact htl) (by rw [h1.out.2.2]; exact hid)).mono ?_
      rintro e w3 ⟨rfl, g3, n3, u3, t3, y3⟩
      have e1 : ({ s1 with tl := s1.tl + 1, Q := St.setQ s1.Q { q with due := s.now + 1000, id := s1.tl + 1, out := false } } : St) = s9 := hs9.out
      rw [e1] at n3 u3
      rw [h1.out.2.2, hdu.out] at n3
      exact ⟨rfl, g3, n3, u2.trans u3, t3.out.trans t2.out, y3.out.1.trans y2.out.1, y3.out.2.trans y2.out.2⟩
    have c0' := n2.cell.2.2.2.2
    rw [h1.out.1] at c0'
    clear n2 u2 t2 y2 h1 hs9 hdu HX
    go_wp2_with fail
    refine Calls.mono (HW.out _ (by first | rfl | exact u64add hnow (by omega))) ?_
    rintro e w3 ⟨rfl, hN⟩
    replace hN := hide hN
    clear HW c0'
    go_wp2
    go_returns
    exact ⟨rfl, hN.out⟩
  | none =>
    replace hs9 : Hid ((s.request q.dest q.ttl).waits q (s.now + 80 * (q.ttl + 2) * 2 ^ q.ret) true = s9) := hs9
    replace hdu : Hid (s.now + 80 * (q.ttl + 2) * 2 ^ q.ret = du) := hdu
    obtain ⟨B', hB1, hL1⟩ := n.nn.rs.sr.ln q hq
    rw [hB] at hB1
    cases hB1
    obtain ⟨k0, k1, k2, k3, k4⟩ := hL1.cell
    have HX := hide (N_request n.drew hR q.dest q.ttl hok.dest (by have := hok.ttl; omega))
    obtain ⟨s1, hs1⟩ : ∃ z, s.request q.dest q.ttl = z := ⟨_, rfl⟩
    have h1 : Hid (s1.now = s.now ∧ s1.Q = s.Q ∧ s1.tl = s.tl) := by
      show _ ∧ _
      rw [← hs1]
      exact ⟨rfl, rfl, rfl⟩
    rw [hs1] at HX hs9
    have hS : w1.drew.cell? ⟨Bq, 0, none⟩ = some (.int .u32 q.dest) ∧ w1.drew.cell? ⟨Bq, 2, none⟩ = some (.int .i64 q.ttl) := ⟨k0, k2⟩
    obtain ⟨b1, b2, b3, b4⟩ := due_bd (s := s) hok hnow
    clear hho hR n hs1 k0 k1 k2 k3 k4 hL1
    simp only [Option.getD_none, Option.isSome_none]
    go_wp2_with fail
    go_region_held3 (fun W => W.cell? ⟨Bq, 0, none⟩ = some (.int .u32 q.dest) ∧ W.cell? ⟨Bq, 2, none⟩ = some (.int .i64 q.ttl)) (first | with_reducible exact hS | with_reducible assumption) ((go_at_call 122; refine HX.out.mono ?_; rintro e w2 ⟨rfl, g2, n2, u2, t2, y2⟩; have hk2 : w2.cell? ⟨Bq, 0, none⟩ = some (.int .u32 q.dest) ∧ w2.cell? ⟨Bq, 2, none⟩ = some (.int .i64 q.ttl) := by obtain ⟨B', hB1, hL1⟩ := n2.nn.rs.sr.ln q (by rw [h1.out.2.1]; exact hq); rw [y2.out.1, hB] at hB1; cases hB1; exact ⟨hL1.cell.1, hL1.cell.2.2.1⟩))
    rename_i hHx
    clear hHx hk2 hS HX
    have hq2 : q ∈ s1.Q := by rw [h1.out.2.1]; exact hq
    have hB2 : g2.h q.dest = some Bq := by rw [y2.out.1]; exact hB
    have HPt : Hid (∀ W5, Below w2.heap.size w2 W5 → Calls Tryz.prog 123 #[.pointer (some ⟨Bq, 0, none⟩)] W5 fun e w' => e = .returned (.int .u64 (80 * (q.ttl + 2) * 2 ^ q.ret)) ∧ Below w2.heap.size w2 w') := by
      intro W5 h5
      obtain ⟨B', hB1, hL1⟩ := (n2.later h5).nn.rs.sr.ln q hq2
      rw [hB2] at hB1
      cases hB1
      refine (patience_any Bq q _ W5 hL1 hok).mono ?_
      rintro e w' ⟨rfl, hb⟩
      exact ⟨rfl, h5.trans (hb.mono h5.size)⟩
    have HW : Hid (∀ W5, Below w2.heap.size w2 W5 → ∀ t, t = s.now + 80 * (q.ttl + 2) * 2 ^ q.ret → Calls Tryz.prog 121 #[.pointer (some ⟨Bq, 0, none⟩), .pointer (some ⟨N, 0, none⟩), .int .u64 t, .func (.func 124) #[.pointer (some ⟨Bq, 0, none⟩)] #[]] W5 fun e w' => e = .returned (.tuple #[]) ∧ w'.cell? ⟨B, 0, none⟩ = some (.int .u64 s.now) ∧ AkP N B g s s9 TL (TL ++ [(du, s.tl + 1, q.dest)]) w1 w') := by
      rintro W5 h5 _ rfl
      refine (N_wait (n2.later h5) q hq2 Bq hB2 (s.now + 80 * (q.ttl + 2) * 2 ^ q.ret) ⟨b1, b2⟩ true hl (by rw [h1.out.2.2]; exact htl) (by rw [h1.out.2.2]; exact hid)).mono ?_
      rintro e w3 ⟨rfl, g3, n3, u3, t3, y3⟩
      have e1 : ({ s1 with tl := s1.tl + 1, Q := St.setQ s1.Q { q with due := s.now + 80 * (q.ttl + 2) * 2 ^ q.ret, id := s1.tl + 1, out := true } } : St) = s9 := hs9.out
      have e2 : s9.now = s.now := by rw [← e1]; exact h1.out.1
      rw [e1] at n3 u3
      rw [h1.out.2.2, hdu.out] at n3
      have c3 := n3.cell.2.2.2.2
      rw [e2] at c3
      exact ⟨rfl, c3, g3, n3, (((Up.below (Below.refl _ _).drew).trans u2).trans (.below h5)).trans u3, t3.out.trans t2.out, y3.out.1.trans y2.out.1, y3.out.2.trans y2.out.2⟩
    have hS : w2.drew.cell? ⟨B, 0, none⟩ = some (.int .u64 s.now) := by
      have := n2.drew.cell.2.2.2.2
      rw [h1.out.1] at this
      exact this
    have HC : Hid (∀ W5, Below w2.heap.size w2 W5 → W5.cell? ⟨B, 0, none⟩ = some (.int .u64 s.now)) := by
      intro W5 h5
      have := (n2.later h5).cell.2.2.2.2
      rw [h1.out.1] at this
      exact this
    generalize hpt : 80 * (q.ttl + 2) * 2 ^ q.ret = pt at HPt HW b3 b4
    replace hpt := hide hpt
    clear n2 u2 t2 y2 h1 hs9 hdu hq2 hB2 hok c0
    go_wp2_with fail
    go_region_held3 (fun W => W.cell? ⟨B, 0, none⟩ = some (.int .u64 s.now)) (first | with_reducible exact hS | with_reducible assumption) (first
      | (go_at_call 123; refine (HPt.out _ (by first | exact Below.refl _ _ | exact (Below.refl _ _).drew | exact below_drewN (Below.refl _ _) _)).mono ?_; rintro e w5 ⟨rfl, hb5⟩; have hk5 := HC.out w5 hb5)
      | (go_at_call 121; refine (HW.out _ (by first | exact hb5 | exact hb5.drew | exact below_drewN hb5 _) _ (by first | rfl | exact u64add hnow (by omega))).mono ?_; rintro e w6 ⟨rfl, hk6, hN⟩; replace hN := hide hN))
    all_goals
      go_wp2
      go_returns
      exact ⟨rfl, hN.out⟩
end Go.Proofs.YtakaadcpaeiccabGreat

namespace Go.Proofs.YtakaadcpaeiccabGreat
open Go.RowKit Go.Maps

/-! A search is given up, or asks farther off. -/
theorem repl_snoc (L : List Int) (k : Nat) : L ++ List.replicate k (5 : Int) ++ [5] = L ++ List.replicate (k + 1) 5 := by
  rw [List.append_assoc, List.replicate_succ', ]
theorem Nd.srOf {N B : Nat} {g : NdG} {s : St} {TL : List Hp.Tm} {W : World} (n : Nd N B g s TL W) {q : Sr} (hq : q ∈ s.Q) {Bq : Nat} (hB : g.h q.dest = some Bq) : SrL Bq q (g.u q.dest) W := by
  obtain ⟨B', h1, h2⟩ := n.nn.rs.sr.ln q hq
  rw [hB] at h1
  cases h1
  exact h2

set_option maxRecDepth 100000 in
set_option maxHeartbeats 4000000 in
theorem N_giveUp {N B : Nat} {g : NdG} {s : St} {TL : List Hp.Tm} {w : World} (n : Nd N B g s TL w) (hdl : s.drs.length ≤ 900000) (q : Sr) (hq : q ∈ s.Q) (Bq : Nat) (hB : g.h q.dest = some Bq) (hl : TL.length ≤ 900000) :
    Calls Tryz.prog 158 #[.pointer (some ⟨Bq, 0, none⟩), .pointer (some ⟨N, 0, none⟩), .pointer (some ⟨B, 0, none⟩)] w fun e w' => e = .returned (.tuple #[]) ∧ ∃ TL', NdH N B g s (({ s with drs := s.drs ++ List.replicate q.txt.length 5 } : St).endQ q.dest) TL' (fun z => z = q.dest) w w' ∧ Took q.id TL TL' := by
  have hok := n.nn.rs.sr.ok q hq
  have hrow := n.nn.rs.sr.row q hq
  obtain ⟨ao, c, hv, _⟩ := row_form hrow
  obtain ⟨k0, k1, k2, k3, k4⟩ := (n.srOf hq hB).cell
  rw [hv] at k1
  have hln := hok.txt
  obtain ⟨s2, hs2⟩ : ∃ z, ({ s with drs := s.drs ++ List.replicate q.txt.length 5 } : St).endQ q.dest = z := ⟨_, rfl⟩
  rw [hs2]
  replace hs2 := hide hs2
  have hb0 : Hid (({ s with drs := s.drs ++ List.replicate 0 5 } : St) = s) := by
    show _ = _
    simp
  have n0 := hide n
  clear hrow hv n
  go_enter Tryz.func158, Tryz.ntmps158
  go_wp2_with fail
  clear k0 k1 k2 k3 k4
  go_loopw [11] (fun i wr => ∃ (k : Nat) (st : St) (g' : NdG), k ≤ q.txt.length ∧ i = .int .i64 k ∧ Hid (({ s with drs := s.drs ++ List.replicate k 5 } : St) = st) ∧ Nd N B g' st TL wr ∧ Up B (Ft N g s) (Ft N g' st) w wr ∧ Hid (g'.x.T = g.x.T) ∧ Hid (g'.h = g.h ∧ g'.u = g.u)) (fun i _ => q.txt.length - (intOf i).toNat)
  case atStart => exact ⟨0, s, g, Nat.zero_le _, rfl, hb0, n0.out, Up.refl _ _ _, rfl, rfl, rfl⟩
  case round =>
    obtain ⟨k, st, g', hk, rfl, hst, nk, uk, tk, yk⟩ := hrel
    by_cases hlt : k < q.txt.length
    · have hki : (k : Int) < (q.txt.length : Int) := by omega
      have hd1 : st.drs.length ≤ 1000000 := by
        rw [← hst.out]
        show (s.drs ++ List.replicate k (5 : Int)).length ≤ _
        rw [List.length_append, List.length_replicate]
        omega
      have HX := hide (N_dropS nk 5 hd1)
      have hstn : Hid (({ s with drs := s.drs ++ List.replicate (k + 1) 5 } : St) = st.drop 5) := by
        show _ = _
        rw [← hst.out]
        unfold St.drop
        dsimp only
        rw [repl_snoc]
      have hmeas : Hid (q.txt.length - (intOf (.int .i64 ((k : Int) + 1))).toNat < q.txt.length - (intOf (.int .i64 (k : Int))).toNat) := by
        show q.txt.length - ((k : Int) + 1).toNat < q.txt.length - (k : Int).toNat
        omega
      clear nk hst hd1
      go_wp2_with fail
      refine Calls.mono HX.out ?_
      rintro e w4 ⟨rfl, g4, n4, u4, t4, y4⟩
      have hfin : Hid (Nd N B g4 (st.drop 5) TL w4 ∧ Up B (Ft N g s) (Ft N g4 (st.drop 5)) w w4 ∧ Hid (g4.x.T = g.x.T) ∧ Hid (g4.h = g.h ∧ g4.u = g.u)) := ⟨n4, uk.trans u4, t4.out.trans tk.out, y4.out.1.trans yk.out.1, y4.out.2.trans yk.out.2⟩
      have hn1 : k + 1 ≤ q.txt.length := hlt
      clear n4 u4 t4 y4 HX uk
      go_wp2
      exact ⟨⟨k + 1, _, g4, hn1, by go_num, hstn, hfin.out⟩, hmeas.out⟩
    · obtain rfl : k = q.txt.length := by omega
      have hq' : q ∈ st.Q := by rw [← hst.out]; exact hq
      have HE := hide (N_endSearch nk q hq' Bq (by rw [yk.out.1]; exact hB) (by omega))
      have hs3 : Hid (({ st with Q := st.Q.filter fun z => !decide (z.dest = q.dest) } : St) = s2) := by
        show _ = _
        rw [← hs2.out, ← hst.out]
        rfl
      rw [hs3.out] at HE
      clear nk hq'
      go_wp2_with fail
      refine Calls.mono HE.out ?_
      rintro e w5 ⟨rfl, TL', ⟨g5, n5, u5, t5, y5⟩, h6⟩
      have hfin : Hid (∃ TL', NdH N B g s s2 TL' (fun z => z = q.dest) w w5 ∧ Took q.id TL TL') := ⟨TL', ⟨g5, n5, uk.trans u5, t5.out.trans tk.out, fun z hz => (y5.out z hz).trans (by rw [yk.out.1])⟩, h6⟩
      clear n5 u5 t5 y5 h6 HE uk
      go_wp2
      go_returns
      exact ⟨rfl, hfin.out⟩
end Go.Proofs.YtakaadcpaeiccabGreat

namespace Go.Proofs.YtakaadcpaeiccabGreat
open Go.RowKit Go.Maps

/-- The timers and the searches behind what search q has done. -/
def TmR (q : Sr) (s : St) (TL : List Hp.Tm) (s2 : St) (TL' : List Hp.Tm) : Prop :=
  (∃ q2 : Sr, q2.dest = q.dest ∧ q2.id = s.tl + 1 ∧ s2.tl = s.tl + 1 ∧ s2.Q = St.setQ s.Q q2 ∧ TL' = TL ++ [tmOf q2]) ∨ (s2.tl = s.tl ∧ s2.Q = (s.Q.filter fun z => !decide (z.dest = q.dest)) ∧ Took q.id TL TL')
theorem ask_Q (s : St) (q : Sr) : ∃ o, (s.ask q).Q = St.setQ s.Q { q with due := s.askDue q, id := s.tl + 1, out := o } ∧ (s.ask q).tl = s.tl + 1 := by
  rw [ask_eq]
  unfold St.askDue
  cases s.holds with
  | some r => exact ⟨false, rfl, rfl⟩
  | none => exact ⟨true, rfl, rfl⟩
theorem ask_TmR (s : St) (q q' : Sr) (TL : List Hp.Tm) (h : q'.dest = q.dest) : TmR q s TL (s.ask q') (TL ++ [(s.askDue q', s.tl + 1, q'.dest)]) := by
  obtain ⟨o, h1, h2⟩ := ask_Q s q'
  exact .inl ⟨{ q' with due := s.askDue q', id := s.tl + 1, out := o }, h, rfl, h2, h1, rfl⟩
theorem ask_set (s : St) (q' : Sr) (X : List Sr) (hX : X = St.setQ s.Q q') : ({ s with Q := X } : St).ask q' = s.ask q' ∧ ({ s with Q := X } : St).askDue q' = s.askDue q' := by
  refine ⟨?_, rfl⟩
  rw [ask_eq, ask_eq]
  have hh : ({ s with Q := X } : St).holds = s.holds := rfl
  rw [hh, hX]
  cases s.holds with
  | some r =>
    dsimp only
    unfold St.waits
    have := setQ_twice s.Q (a := q') (b := { q' with due := s.now + 1000, id := s.tl + 1, out := false }) rfl
    show ({ s.drop r with tl := s.tl + 1, Q := St.setQ (St.setQ s.Q q') { q' with due := s.now + 1000, id := s.tl + 1, out := false } } : St) = { s.drop r with tl := s.tl + 1, Q := St.setQ s.Q { q' with due := s.now + 1000, id := s.tl + 1, out := false } }
    rw [this]
  | none =>
    dsimp only
    unfold St.waits
    have := setQ_twice s.Q (a := q') (b := { q' with due := s.now + 80 * (q'.ttl + 2) * 2 ^ q'.ret, id := s.tl + 1, out := true }) rfl
    show ({ s.request q'.dest q'.ttl with tl := s.tl + 1, Q := St.setQ (St.setQ s.Q q') { q' with due := s.now + 80 * (q'.ttl + 2) * 2 ^ q'.ret, id := s.tl + 1, out := true } } : St) = { s.request q'.dest q'.ttl with tl := s.tl + 1, Q := St.setQ s.Q { q' with due := s.now + 80 * (q'.ttl + 2) * 2 ^ q'.ret, id := s.tl + 1, out := true } }
    rw [this]
theorem SrB.setTtl {B : Nat} {q : Sr} {v fn : Value} {W : World} (h : SrB B q v fn W) (i : Int) : SrB B { q with ttl := i } v fn (W.setCell ⟨B, 2, none⟩ (.int .i64 i)) := by
  unfold SrB at h ⊢
  simp [World.setCell, Array.getElem?_modify, h]
theorem SrB.setRet {B : Nat} {q : Sr} {v fn : Value} {W : World} (h : SrB B q v fn W) (i : Nat) : SrB B { q with ret := i } v fn (W.setCell ⟨B, 3, none⟩ (.int .i64 i)) := by
  unfold SrB at h ⊢
  simp [World.setCell, Array.getElem?_modify, h]
theorem SrL.frees {B : Nat} {q : Sr} {v : Value} {W : World} (h : SrL B q v W) (i : Nat) : W.frozen? ⟨B, i, none⟩ = false := by
  obtain ⟨fn, h1, _⟩ := h
  exact h1.free i
theorem SrL.setTtl {B : Nat} {q : Sr} {v : Value} {W : World} (h : SrL B q v W) (i : Int) : SrL B { q with ttl := i } v (W.setCell ⟨B, 2, none⟩ (.int .i64 i)) := by
  obtain ⟨fn, h1, h2⟩ := h
  exact ⟨fn, h1.setTtl i, h2⟩
theorem SrL.setRet {B : Nat} {q : Sr} {v : Value} {W : World} (h : SrL B q v W) (i : Nat) : SrL B { q with ret := i } v (W.setCell ⟨B, 3, none⟩ (.int .i64 i)) := by
  obtain ⟨fn, h1, h2⟩ := h
  exact ⟨fn, h1.setRet i, h2⟩
/-- What a step of a search leaves. -/
def StepP (N B : Nat) (g : NdG) (s s2 : St) (TL : List Hp.Tm) (q : Sr) (w w' : World) : Prop := ∃ TL', NdH N B g s s2 TL' (fun z => z = q.dest) w w' ∧ TmR q s TL s2 TL'

set_option maxRecDepth 100000 in
set_option maxHeartbeats 4000000 in
theorem N_widen {N B : Nat} {g : NdG} {s : St} {TL : List Hp.Tm} {w : World} (n : Nd N B g s TL w) (hR : s.Rdy) (hdl : s.drs.length ≤ 800000) (q : Sr) (hq : q ∈ s.Q) (Bq : Nat) (hB : g.h q.dest = some Bq) (hl : TL.length ≤ 900000) (htl : 0 ≤ s.tl ∧ s.tl ≤ 4000000000000000000) (hid : ∀ x ∈ TL, x.2.1 ≤ s.tl) :
    Calls Tryz.prog 124 #[.pointer (some ⟨Bq, 0, none⟩), .pointer (some ⟨N, 0, none⟩), .pointer (some ⟨B, 0, none⟩)] w fun e w' => e = .returned (.tuple #[]) ∧ StepP N B g s (s.widen q) TL q w w' := by
  have hok := n.nn.rs.sr.ok q hq
  have hL := n.srOf hq hB
  obtain ⟨k0, k1, k2, k3, k4⟩ := hL.cell
  have f2 := hL.frees 2
  have f3 := hL.frees 3
  have hAsk : ∀ (q' : Sr) (W' : World), q'.dest = q.dest → q'.Ok → q'.txt = q.txt → SrL Bq q' (g.u q.dest) W' → Fx (fun k => k = Bq) w W' → Calls Tryz.prog 83 #[.pointer (some ⟨Bq, 0, none⟩), .pointer (some ⟨N, 0, none⟩), .pointer (some ⟨B, 0, none⟩)] W' fun e w' => e = .returned (.tuple #[]) ∧ StepP N B g s (s.ask q') TL q w w' := by
    intro q' W' hd ok' ht hL' hf
    obtain ⟨n1, u1⟩ := n.setS hq hd ok' ht hB hL' hf
    obtain ⟨e1, e2⟩ := ask_set s q' _ rfl
    refine (N_ask n1 ⟨hR.me, hR.seq, hR.now, hR.mem, ⟨hR.dom.mb, hR.dom.on, hR.dom.own⟩, hR.cnt, hR.nws, hR.frs, hR.tn, hR.pcl, hR.pcs, hR.pcn⟩ (by dsimp only; omega) q' ((mem_setQ hq).1 hd.symm) Bq (by rw [hd]; exact hB) hl htl hid).mono ?_
    rintro e w9 ⟨rfl, g9, n9, u9, t9, y9⟩
    rw [e1] at n9 u9
    rw [e2] at n9
    exact ⟨rfl, _, ⟨g9, n9, u1.trans u9, t9, fun z _ => by rw [y9.out.1]⟩, ask_TmR s q q' TL hd⟩
  have hGive : Calls Tryz.prog 158 #[.pointer (some ⟨Bq, 0, none⟩), .pointer (some ⟨N, 0, none⟩), .pointer (some ⟨B, 0, none⟩)] w fun e w' => e = .returned (.tuple #[]) ∧ StepP N B g s (({ s with drs := s.drs ++ List.replicate q.txt.length 5 } : St).endQ q.dest) TL q w w' := by
    refine (N_giveUp n (by omega) q hq Bq hB hl).mono ?_
    rintro e w9 ⟨rfl, TL', h1, h2⟩
    exact ⟨rfl, TL', h1, .inr ⟨rfl, rfl, h2⟩⟩
  obtain ⟨s2, hs2⟩ : ∃ z, s.widen q = z := ⟨_, rfl⟩
  rw [hs2]
  unfold St.widen at hs2
  by_cases h5 : q.ttl + 2 ≤ 5
  · rw [if_pos h5] at hs2
    have d5 : decide (q.ttl + 2 ≤ 5) = true := decide_eq_true h5
    have HX := hide (hAsk { q with ttl := q.ttl + 2 } _ rfl ⟨hok.dest, by have := hok.ttl; dsimp only; omega, hok.ret, hok.txt, hok.siz, hok.id⟩ rfl (hL.setTtl _) (Fx.grown (grown_cellOf (grown_self _ (some Bq)) 2 _) fun k e => by cases e; rfl))
    rw [hs2] at HX
    have htt := hok.ttl
    replace hs2 := hide hs2
    clear hAsk hGive n hL hok
    go_enter Tryz.func124, Tryz.ntmps124
    go_wp2_with fail
    refine Calls.mono HX.out ?_
    rintro e w9 ⟨rfl, hN⟩
    replace hN := hide hN
    clear HX
    go_wp2
    go_returns
    exact ⟨rfl, hN.out⟩
  · rw [if_neg h5] at hs2
    have d5 : decide (q.ttl + 2 ≤ 5) = false := decide_eq_false h5
    by_cases h8 : q.ttl < 8
    · rw [if_pos h8] at hs2
      have d8 : decide (q.ttl < 8) = true := decide_eq_true h8
      have HX := hide (hAsk { q with ttl := 8 } _ rfl ⟨hok.dest, by dsimp only; omega, hok.ret, hok.txt, hok.siz, hok.id⟩ rfl (hL.setTtl _) (Fx.grown (grown_cellOf (grown_self _ (some Bq)) 2 _) fun k e => by cases e; rfl))
      rw [hs2] at HX
      have htt := hok.ttl
      replace hs2 := hide hs2
      clear hAsk hGive n hL hok
      go_enter Tryz.func124, Tryz.ntmps124
      go_wp2_with fail
      refine Calls.mono HX.out ?_
      rintro e w9 ⟨rfl, hN⟩
      replace hN := hide hN
      clear HX
      go_wp2
      go_returns
      exact ⟨rfl, hN.out⟩
    · rw [if_neg h8] at hs2
      have d8 : decide (q.ttl < 8) = false := decide_eq_false h8
      by_cases h2 : q.ret < 2
      · rw [if_pos h2] at hs2
        have d2 : decide (q.ret < 2) = true := decide_eq_true h2
        have d2' : decide ((q.ret : Int) < 2) = true := decide_eq_true (by omega)
        have HX := hide (hAsk { q with ret := q.ret + 1 } _ rfl ⟨hok.dest, hok.ttl, by dsimp only; omega, hok.txt, hok.siz, hok.id⟩ rfl (hL.setRet _) (Fx.grown (grown_cellOf (grown_self _ (some Bq)) 3 _) fun k e => by cases e; rfl))
        rw [hs2] at HX
        rw [Int.natCast_add] at HX
        have htt := hok.ttl
        replace hs2 := hide hs2
        clear hAsk hGive n hL hok
        go_enter Tryz.func124, Tryz.ntmps124
        go_wp2_with fail
        refine Calls.mono HX.out ?_
        rintro e w9 ⟨rfl, hN⟩
        replace hN := hide hN
        clear HX
        go_wp2
        go_returns
        exact ⟨rfl, hN.out⟩
      · rw [if_neg h2] at hs2
        have d2 : decide (q.ret < 2) = false := decide_eq_false h2
        have d2' : decide ((q.ret : Int) < 2) = false := decide_eq_false (by omega)
        have HX := hide hGive
        rw [hs2] at HX
        have htt := hok.ttl
        replace hs2 := hide hs2
        clear hAsk hGive n hL hok
        go_enter Tryz.func124, Tryz.ntmps124
        go_wp2_with fail
        refine Calls.mono HX.out ?_
        rintro e w9 ⟨rfl, hN⟩
        replace hN := hide hN
        clear HX
        go_wp2
        go_returns
        exact ⟨rfl, hN.out⟩
end Go.Proofs.YtakaadcpaeiccabGreat

namespace Go.Proofs.YtakaadcpaeiccabGreat.DS
open Go.RowKit Go.Maps

/-! One element of a row is taken out. -/
theorem own_cells {base e g m cap size : Nat} : ∀ (vs : List Value) (o : Nat) (xs : List Value) (W : World), W.ownsRow base e size (.slice (some ⟨g, 0, none⟩) m cap) m xs → o + vs.length ≤ m * size →
    (W.setCells g o vs).ownsRow base e size (.slice (some ⟨g, 0, none⟩) m cap) m (xs.take o ++ vs ++ xs.drop (o + vs.length)) ∧ W.grownBy (W.setCells g o vs) (some g)
  | [], o, xs, W, h, _ => by
    simp only [World.setCells, List.append_nil, List.length_nil, Nat.add_zero, List.take_append_drop]
    exact ⟨h, grown_self _ _⟩
  | v :: r, o, xs, W, h, hl => by
    simp only [List.length_cons] at hl
    have hx : xs.length = m * size := h.1
    obtain ⟨h1, g1⟩ := h.stored o v
    obtain ⟨h2, g2⟩ := own_cells r (o + 1) (xs.set o v) (W.setCell ⟨g, o, none⟩ v) h1 (by omega)
    refine ⟨?_, ⟨g2.os.trans g1.os, g2.tape.trans g1.tape, g2.output.trans g1.output, Nat.le_trans g1.size g2.size, fun k hk hn => (g2.block k (Nat.lt_of_lt_of_le hk g1.size) hn).trans (g1.block k hk hn)⟩⟩
    have e1 : (xs.set o v).take (o + 1) = xs.take o ++ [v] := by
      rw [List.take_succ_eq_append_getElem (by simp; omega), List.take_set_of_le (Nat.le_refl o)]
      simp
    have e2 : (xs.set o v).drop (o + 1 + r.length) = xs.drop (o + (r.length + 1)) := by
      rw [List.drop_set_of_lt (by omega), show o + 1 + r.length = o + (r.length + 1) by omega]
    rw [e1, e2] at h2
    show ((W.setCell ⟨g, o, none⟩ v).setCells g (o + 1) r).ownsRow _ _ _ _ _ _
    simpa using h2
/-- A row read shorter. -/
theorem own_short {base e g n m cap size : Nat} {W : World} {xs : List Value} (h : W.ownsRow base e size (.slice (some ⟨g, 0, none⟩) n cap) n xs) (hm : m ≤ n) :
    W.ownsRow base e size (.slice (some ⟨g, 0, none⟩) m cap) m (xs.take (m * size)) := by
  rcases h.2 with ⟨he, _⟩ | ⟨g', cap', cur, he, hb, hg, h1, h2, h3, h4⟩
  · cases he
  · cases he
    have hx := h.1
    have hms : m * size ≤ n * size := Nat.mul_le_mul_right _ hm
    refine ⟨by rw [List.length_take, hx]; omega, .inr ⟨g, cap, cur, rfl, hb, hg, by omega, h2, h3, ?_⟩⟩
    rw [← h4, List.take_take, Nat.min_eq_left hms]
theorem slice_h (a : Option Addr) (n c k : Nat) (hk : k ≤ c) (W : World) : (Instr.slice 80 (.slice a n c) none (some (.int .i64 k)) none).run Tryz.prog W = .ok (.slice a k c) W := by
  have ht : Tryz.prog.underlying 80 = some (.slice (Tryz.prog.elem 80)) := by simp [Program.elem, Tryz.underlying80]
  have hz : ∀ w, (Go.sizeOf (Tryz.prog.elem 80)).run Tryz.prog w = .ok 1 w := by
    intro w
    simp [go_sem, Program.elem, Tryz.underlying80]
  rw [run_slice_h W 80 _ _ _ ht .i64 _ (by omega) (by omega), hz]
  simp only [Result.andThen, sliced]
  rw [Nat.sub_zero, Nat.sub_zero, Int.toNat_natCast]
  cases a <;> (split <;> simp [Addr.add])
theorem slice_l (g n c k : Nat) (hk : k ≤ n) : ∃ ad : Addr, (∀ W, (Instr.slice 80 (.slice (some ⟨g, 0, none⟩) n c) (some (.int .i64 k)) none none).run Tryz.prog W = .ok (.slice (some ad) (n - k) (c - k)) W) ∧ (k < c → ad = ⟨g, k * 1, none⟩) := by
  have ht : Tryz.prog.underlying 80 = some (.slice (Tryz.prog.elem 80)) := by simp [Program.elem, Tryz.underlying80]
  have hz : ∀ w, (Go.sizeOf (Tryz.prog.elem 80)).run Tryz.prog w = .ok 1 w := by
    intro w
    simp [go_sem, Program.elem, Tryz.underlying80]
  refine ⟨if c = k then ⟨g, 0, none⟩ else ⟨g, k * 1, none⟩, fun W => ?_, fun h => by rw [if_neg (by omega)]⟩
  rw [run_slice_l W 80 _ _ _ ht .i64 _ (by omega) (by omega), hz]
  simp only [Result.andThen, sliced]
  rw [Int.toNat_natCast]
  split <;> simp [Addr.add_lit]
theorem slice_lh (g n c k m : Nat) (hk : k < m) (hm : m ≤ c) (W : World) : (Instr.slice 80 (.slice (some ⟨g, 0, none⟩) n c) (some (.int .i64 k)) (some (.int .i64 m)) none).run Tryz.prog W = .ok (.slice (some ⟨g, k * 1, none⟩) (m - k) (c - k)) W := by
  have ht : Tryz.prog.underlying 80 = some (.slice (Tryz.prog.elem 80)) := by simp [Program.elem, Tryz.underlying80]
  have hz : ∀ w, (Go.sizeOf (Tryz.prog.elem 80)).run Tryz.prog w = .ok 1 w := by
    intro w
    simp [go_sem, Program.elem, Tryz.underlying80]
  rw [run_slice_lh W 80 _ _ _ ht .i64 .i64 _ _ (by omega) (by omega) (by omega), hz]
  simp only [Result.andThen, sliced]
  rw [Int.toNat_natCast, Int.toNat_natCast, if_neg (by omega)]
  simp [Addr.add_lit]
theorem slice_lhm (a : Option Addr) (n c k m l : Nat) (hk : k ≤ m) (hm : m ≤ l) (hl : l ≤ c) : ∃ v, ∀ W, (Instr.slice 80 (.slice a n c) (some (.int .i64 k)) (some (.int .i64 m)) (some (.int .i64 l))).run Tryz.prog W = .ok v W := by
  have ht : Tryz.prog.underlying 80 = some (.slice (Tryz.prog.elem 80)) := by simp [Program.elem, Tryz.underlying80]
  have hz : ∀ w, (Go.sizeOf (Tryz.prog.elem 80)).run Tryz.prog w = .ok 1 w := by
    intro w
    simp [go_sem, Program.elem, Tryz.underlying80]
  refine ⟨sliced a k m l 1, fun W => ?_⟩
  rw [run_slice_lhm W 80 _ _ _ ht .i64 .i64 .i64 _ _ _ (by omega) (by omega) (by omega) (by omega), hz]
  simp only [Result.andThen, Int.toNat_natCast]
theorem zero_val (w : World) : (zeroValue 9).run Tryz.prog w = .ok (.string ⟨#[]⟩) w := by kernel_rfl
/-- One element becomes zero. -/
theorem run_clear1 (w : World) (ty : TypeId) (b o c : Nat) (hc : ∀ j, j < 1 → (w.cell? ⟨b, o + j, none⟩).isSome = true) (hf : ∀ j, j < 1 → w.frozen? ⟨b, o + j, none⟩ = false) :
    (Builtin.clear_ #[80] ty #[.slice (some ⟨b, o, none⟩) 1 c]).run Tryz.prog w = .ok (.tuple #[]) (w.setCells b o ([.string ⟨#[]⟩] : List Value)) := by
  have hzc : (Builtin.zeroCells (.string ⟨#[]⟩ : Value).cells 1).toList = ([.string ⟨#[]⟩] : List Value) := by kernel_rfl
  have hst := run_storeCells_cells (P := Tryz.prog) b o ([.string ⟨#[]⟩] : List Value) 0 w (fun j hj => by rw [Nat.add_zero]; exact hc j hj) (fun j hj => by rw [Nat.add_zero]; exact hf j hj) (by intro v hv; simp at hv; rcases hv with rfl <;> rfl)
  simp only [Nat.add_zero] at hst
  simp [Builtin.clear_, run_underlying Tryz.underlying80, hzc, hst]
theorem info_e : (Tryz.prog.info? 9).map (fun i => (i.zero, i.size, i.bytes)) = some (some (.string ⟨#[]⟩), 1, 16) := by kernel_rfl

set_option maxRecDepth 100000 in
set_option maxHeartbeats 4000000 in
theorem Delete_any (base g n cap i : Nat) (xs : List Value) (w : World) (h : w.ownsRow base 9 1 (.slice (some ⟨g, 0, none⟩) n cap) n xs) (hi : i < n) (hn : n ≤ 1000000) (h1c : ∀ u ∈ xs, u.oneCell' = true) :
    Calls Tryz.prog 118 #[.slice (some ⟨g, 0, none⟩) n cap, .int .i64 i, .int .i64 ((i : Int) + 1)] w fun e w' => e = .returned (.slice (some ⟨g, 0, none⟩) (n - 1) cap) ∧ w'.ownsRow base 9 1 (.slice (some ⟨g, 0, none⟩) (n - 1) cap) (n - 1) (xs.take (i) ++ xs.drop (i + 1)) ∧ w.grownBy w' (some g) := by
  obtain ⟨i0, hii, hz0, hz1, hz2⟩ := info_parts info_e
  have hcap : n ≤ cap := by
    rcases h.2 with ⟨he, _⟩ | ⟨g', cap', cur, he, hb, hg, h1, h2, h3, h4⟩
    · cases he
    · cases he; exact h1
  have hx := h.1
  obtain ⟨v13, hs13⟩ := slice_lhm (some ⟨g, 0, none⟩) n cap i (i + 1) n (by omega) (by omega) hcap
  have hs22 := slice_h (some ⟨g, 0, none⟩) n cap i (by omega)
  obtain ⟨ad, hs25, had⟩ := slice_l g n cap (i + 1) (by omega)
  have hd : w.drew.ownsRow base 9 1 (.slice (some ⟨g, 0, none⟩) n cap) n xs := h
  have hnl : (xs.drop ((i + 1) * 1)).length = (n - (i + 1)) * 1 := by
    rw [List.length_drop, hx, Nat.sub_mul]
  have hcell : ∀ {W : World} {ys : List Value}, W.ownsRow base 9 1 (.slice (some ⟨g, 0, none⟩) n cap) n ys → ∀ j, j < n * 1 → (W.cell? ⟨g, j, none⟩).isSome = true := fun hW j hj => by
    rw [hW.cellAt j hj, List.getElem?_eq_getElem (by rw [hW.1]; exact hj)]
    rfl
  have hjl : ∀ j, j < (n - (i + 1)) * 1 → (i + 1) * 1 + j < n * 1 ∧ i * 1 + j < n * 1 := fun j hj => by
    rw [Nat.sub_mul] at hj
    have : (i + 1) * 1 ≤ n * 1 := Nat.mul_le_mul_right _ (by omega)
    rw [Nat.add_mul] at hj this ⊢
    try omega
  have hcA : Hid (∀ j u, (xs.drop ((i + 1) * 1))[j]? = some u → w.drew.cell? (ad.add j) = some u) := fun j u hj => by
    have hl := (List.getElem?_eq_some_iff.1 hj).1
    rw [hnl] at hl
    rw [had (by omega), Addr.add_lit]
    rw [List.getElem?_drop] at hj
    exact (hd.cellAt _ (hjl j hl).1).trans hj
  have hspA : Hid (∀ j, j < (xs.drop ((i + 1) * 1)).length → (w.drew.cell? ⟨g, 0 + i * 1 + j, none⟩).isSome = true ∧ w.drew.frozen? ⟨g, 0 + i * 1 + j, none⟩ = false) := fun j hj => by
    rw [hnl] at hj
    rw [Nat.zero_add]
    exact ⟨hcell hd _ (hjl j hj).2, hd.frozenAt _⟩
  have hE1 : Hid (i + (n - (i + 1)) = n - 1) := by show _ = _; omega
  have hE2 : Hid (0 + i * 1 = i * 1) := Nat.zero_add _
  have hnlA := (show Hid _ from hnl)
  have h1cA : Hid (∀ u ∈ xs.drop ((i + 1) * 1), u.oneCell' = true) := fun u hu => h1c u (List.mem_of_mem_drop hu)
  obtain ⟨h1, g1⟩ := own_cells (xs.drop ((i + 1) * 1)) (i * 1) xs _ hd (by
    rw [hnl, ← Nat.add_mul]
    exact Nat.mul_le_mul_right _ (by omega))
  have hs31 := slice_lh g (n - 1) cap (n - 1) n (by omega) hcap
  rw [show n - (n - 1) = 1 by omega] at hs31
  have hlast : (n - 1) * 1 + 1 = n * 1 := by
    rw [← Nat.succ_mul, show (n - 1).succ = n by omega]
  have hcl : ∀ ty, (Builtin.clear_ #[80] ty #[.slice (some ⟨g, (n - 1) * 1, none⟩) 1 (cap - (n - 1))]).run Tryz.prog (w.drew.setCells g (i * 1) (xs.drop ((i + 1) * 1))) = .ok (.tuple #[]) ((w.drew.setCells g (i * 1) (xs.drop ((i + 1) * 1))).setCells g ((n - 1) * 1) ([.string ⟨#[]⟩] : List Value)) := fun ty =>
    run_clear1 _ ty g _ _ (fun j hj => hcell h1 _ (by omega)) (fun j hj => h1.frozenAt _)
  obtain ⟨h2, g2⟩ := own_cells ([.string ⟨#[]⟩] : List Value) ((n - 1) * 1) _ _ h1 (by simp only [List.length_cons, List.length_nil]; omega)
  have h3 := own_short h2 (m := n - 1) (by omega)
  have hgg : w.grownBy ((w.drew.setCells g (i * 1) (xs.drop ((i + 1) * 1))).setCells g ((n - 1) * 1) ([.string ⟨#[]⟩] : List Value)) (some g) := ⟨g2.os.trans g1.os, g2.tape.trans g1.tape, g2.output.trans g1.output, Nat.le_trans g1.size g2.size, fun k hk hn => (g2.block k (Nat.lt_of_lt_of_le hk g1.size) hn).trans (g1.block k hk hn)⟩
  have hfinal : ((xs.take (i * 1) ++ xs.drop ((i + 1) * 1) ++ xs.drop (i * 1 + (xs.drop ((i + 1) * 1)).length)).take ((n - 1) * 1) ++ ([.string ⟨#[]⟩] : List Value) ++ (xs.take (i * 1) ++ xs.drop ((i + 1) * 1) ++ xs.drop (i * 1 + (xs.drop ((i + 1) * 1)).length)).drop ((n - 1) * 1 + ([.string ⟨#[]⟩] : List Value).length)).take ((n - 1) * 1) = xs.take (i * 1) ++ xs.drop ((i + 1) * 1) := by
    have hl : (xs.take (i * 1) ++ xs.drop ((i + 1) * 1)).length = (n - 1) * 1 := by
      have : i * 1 ≤ n * 1 := Nat.mul_le_mul_right _ (by omega)
      rw [List.length_append, hnl, List.length_take, hx, Nat.min_eq_left this, ← Nat.add_mul]
      congr 1
      all_goals omega
    rw [List.take_left' hl, List.append_assoc, List.take_left' hl]
  rw [hfinal] at h3
  clear h1 g1 h2 g2 hcell hd h hnl hlast hx had h1c hjl
  have hfin := (show Hid _ from And.intro h3 hgg)
  clear h3 hgg hfinal
  have hne : ((i : Int) == (i : Int) + 1) = false := by
    have : ¬ ((i : Int) = (i : Int) + 1) := by omega
    simpa using this
  rw [show ((i + 1 : Nat) : Int) = (i : Int) + 1 from rfl] at hs13 hs25
  try simp only [Nat.mul_one] at hcl hs31 hfin
  go_enter Tryz.func118, Tryz.ntmps118
  go_wp2_with fail
  go_region_law (refine step_append_room rfl (.tmp 22) (.tmp 25) 80 rfl 9 i0 1 Tryz.underlying80 hii hz1 g 0 i cap rfl ad (n - (i + 1)) (cap - (i + 1)) (xs.drop ((i + 1) * 1)) rfl hnlA.out hcA.out h1cA.out (by omega) hspA.out ?_; rw [hE1.out, hE2.out])
  all_goals
    generalize (w.drew.setCells g (i) (xs.drop (i + 1))) = X at hcl hfin ⊢
    go_wp2
    go_returns
    exact ⟨rfl, hfin.out⟩
end Go.Proofs.YtakaadcpaeiccabGreat.DS

namespace Go.Proofs.YtakaadcpaeiccabGreat
open Go.RowKit

/-! A text's copy. -/
theorem info_by : (Tryz.prog.info? 5).map (fun i => (i.zero, i.size, i.bytes)) = some (some (.int .u8 0), 1, 1) := by kernel_rfl
set_option maxRecDepth 100000 in
set_option maxHeartbeats 4000000 in
theorem stringslite_clone (s : ByteArray) (w : World) (hlim : s.size ≤ 1000000) :
    Calls Tryz.prog 152 #[.string s] w fun e w' => e = .returned (.string s) ∧ Below w.heap.size w w' := by
  by_cases h0 : s.size = 0
  · have hs : s = ⟨#[]⟩ := by
      apply ByteArray.ext
      exact Array.eq_empty_of_size_eq_zero h0
    subst hs
    go_enter Tryz.func152, Tryz.ntmps152
    go_wp2
    go_ret
    exact ⟨rfl, Below.refl _ _⟩
  · obtain ⟨i0, hi, hz0, hz1, hz2⟩ := info_parts info_by
    have hinfo : (Tryz.prog.info? 5).map (·.size) = some 1 := by rw [hi]; simp [hz1]
    have hco : Tryz.prog.cellsOf 5 = 1 := by simp [Program.cellsOf, hi, hz1]
    obtain ⟨M, hM⟩ : ∃ M, M = madeCells (Value.int .u8 0).cells (((s.size : Nat) : Int).toNat * i0.size) := ⟨_, rfl⟩
    have hMs : M.size = s.size := by rw [hM, size_madeCells, hz1]; simp
    have hmk : ∀ W : World, (Instr.makeSlice 58 (.int .i64 (s.size : Int)) (.int .i64 (s.size : Int))).run Tryz.prog W = .ok (.slice (some ⟨W.heap.size, 0, none⟩) s.size s.size) (W.alloc (.cells M 5)) := fun W => by
      have h := run_make (P := Tryz.prog) W 58 5 i0 (.int .u8 0) Tryz.underlying58 hi hz0 .i64 .i64 (s.size : Int) (s.size : Int) (by omega) (by omega) (by rw [hz2]; omega) (by omega)
      rw [← hM] at h
      simpa using h
    clear hM
    have hcp := Lib.run_copy_row_string (P := Tryz.prog) (w.alloc (.cells M 5)) 58 9 3 5 w.heap.size 0 s.size s.size s M 5 Tryz.underlying58 hinfo (heap_alloc_new w _) (Nat.le_refl _) (by omega)
    obtain ⟨Y, hY⟩ : ∃ Y, Y = (M.toList.take 0 ++ Lib.byteCells s.data.toList ++ M.toList.drop (0 + s.size)).toArray := ⟨_, rfl⟩
    rw [← hY] at hcp
    have hYl : Y.toList = Lib.byteCells s.data.toList := by
      rw [hY, List.toList_toArray, List.take_zero, List.nil_append, List.drop_of_length_le (by rw [Array.length_toList]; omega), List.append_nil]
    have hYs : Y.size = s.size := by rw [← Array.length_toList, hYl, Lib.byteCells_length, ← Lib.size_eq]
    have hgY : ((w.alloc (.cells M 5)).setRow w.heap.size Y).heap[w.heap.size]? = some (.cells Y 5 (0, 0)) := setRow_heap _ _ M _ 5 (0, 0) (heap_alloc_new w _)
    have hne : s.data.toList ≠ [] := fun e => h0 (by rw [Lib.size_eq, e]; rfl)
    have hUS := Lib.run_unsafeString_row (P := Tryz.prog) ((w.alloc (.cells M 5)).setRow w.heap.size Y) 274 3 9 5 Tryz.underlying274 hco w.heap.size Y.size (by unfold World.shape?; rw [hgY]) s.data.toList hne (by rw [← Lib.size_eq]; omega) (by rw [← Lib.size_eq]; omega)
      (fun j x hx => Lib.cells_of_row hgY Y.size j _ (by rw [List.take_of_length_le (by rw [Array.length_toList]; exact Nat.le_refl _), hYl]; simp [Lib.byteCells, hx]))
    rw [← Lib.size_eq] at hUS
    clear hY
    go_enter Tryz.func152, Tryz.ntmps152
    go_wp2
    go_ret
    have hb1 : Below w.heap.size w (w.alloc (.cells M 5)) := (Below.refl _ w).alloc (Nat.le_refl _) _
    have hb2 : Below w.heap.size (w.alloc (.cells M 5)) ((w.alloc (.cells M 5)).setRow w.heap.size Y) := ⟨rfl, rfl, rfl, by simp, fun k hk => setRow_other _ _ _ _ (by omega)⟩
    exact ⟨rfl, Lib.below_freeze (hb1.trans hb2) (p := ⟨w.heap.size, 0, none⟩) (Nat.le_refl _) _⟩
theorem clone_any (s : ByteArray) (w : World) (hlim : s.size ≤ 1000000) :
    Calls Tryz.prog 119 #[.string s] w fun e w' => e = .returned (.string s) ∧ Below w.heap.size w w' := by
  go_enter Tryz.func119, Tryz.ntmps119
  go_wp2_with fail
  refine (stringslite_clone s w hlim).mono ?_
  rintro e w' ⟨rfl, hb⟩
  go_wp2
  go_ret
  exact ⟨rfl, hb⟩
end Go.Proofs.YtakaadcpaeiccabGreat
