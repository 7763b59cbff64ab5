import Derived.Test.YtakaadcpaeiccabGreatC52
import Derived.Test.YtakaadcpaeiccabGreatC53
import Derived.Test.YtakaadcpaeiccabGreatC42
import Derived.Test.YtakaadcpaeiccabGreatC43
import Derived.Test.YtakaadcpaeiccabGreatC16
namespace Go.Proofs.YtakaadcpaeiccabGreat
open Go.RowKit Go.Maps

/-! A node of a mesh is called. -/
/-- A node has been called: what it does is still to take its effect. -/
theorem act_pre {y : MG} {m : Msh} {W W' : World} (h : MM y m W) {κ : Int} {q q' : Nat} (hok : MOk κ q m) {i : Nat} {x : SG} {s : Stn} {z z' : St} {o : Value} (h1 : y.L[i]? = some x) (h2 : m.S[i]? = some s) (hz : s.nd = some z) (c : CallP x.N x.g z z' W o W') (hI : z'.Inv (κ + 1)) (hp : z'.Pos) (hme : z'.me = z.me) (hnow : z'.now = m.now) (hq : q ≤ q') (hql : z'.Q.length ≤ q') (hc : CntP z.cnt z') :
    ∃ frm cam drp y2, o = outV z'.jrn z'.rep frm cam drp ∧ OutR W.heap.size z'.frs z'.cms z'.drs frm cam drp W' ∧ MM y2 (m.put i { s with nd := some z' }) W' ∧ MU y m y2 (m.put i { s with nd := some z' }) W W' ∧ DOk (κ + 1) q' (m.put i { s with nd := some z' }) i z' := by
  obtain ⟨frm, cam, drp, e, hor, y2, hm2, hu2⟩ := h.call h1 h2 hz c
  have hi := (List.getElem?_eq_some_iff.1 h2).1
  have hS : (m.put i { s with nd := some z' }).S[i]? = some { s with nd := some z' } := by rw [(put_S _ _ _).1, List.getElem?_set_self hi]
  obtain ⟨x2, hx2⟩ : ∃ x2, y2.L[i]? = some x2 := ⟨_, List.getElem?_eq_getElem (by rw [hm2.len, (put_S _ _ _).1, List.length_set]; exact hi)⟩
  obtain ⟨nn, _⟩ := (hm2.st i x2 _ hx2 hS).nd z' rfl
  exact ⟨frm, cam, drp, y2, e, hor, hm2, hu2, hok.called (by omega) hq h2 hz hc ⟨hI, hp, hme.trans ((hok.at h2).nd z hz).me, by rw [hnow]; exact Int.le_refl _, hql, nn.cr.tb.ok, nn.cr.tb.len⟩⟩
/-- The searches of a node that lies in memory are in order. -/
theorem Nn.srs {N : Nat} {g : NdG} {s : St} {TL : List Hp.Tm} {W : World} (n : Nn N g s TL W) : SrsOk s := fun q hq => ⟨(n.rs.sr.ok q hq).txt, (n.rs.sr.ok q hq).ttl⟩
theorem act_eq {m : Msh} {i : Nat} {s : Stn} (h : m.S[i]? = some s) (z : St) : m.act i z = (m.put i { s with nd := some z }).did i z.ot := by
  unfold Msh.act
  rw [at_of h]

theorem conv_vb8 (s : ByteArray) (hs : s.size ≤ 65536) (w : World) : ∃ cap W, (convert 9 58 (.string s)).run Tryz.prog w = .ok (.slice (some ⟨w.heap.size, 0, none⟩) s.size cap) W ∧ Below w.heap.size w W ∧ VB W (.slice (some ⟨w.heap.size, 0, none⟩) s.size cap) (strNums s) := by
  refine ⟨_, _, run_bytes_of_string (P := Tryz.prog) w 9 58 5 s Tryz.underlying9 Tryz.underlying58 Tryz.underlying5, (Below.refl w.heap.size w).drew.alloc (Nat.le_refl _) _, rest_new s hs w _, fun b o n c hv => ?_⟩
  simp only [Value.slice.injEq, Option.some.injEq, Addr.mk.injEq, and_true] at hv
  obtain ⟨⟨rfl, rfl⟩, _⟩ := hv
  exact ⟨_, _, heap_alloc_new w.drew _⟩
end Go.Proofs.YtakaadcpaeiccabGreat

namespace Go.Proofs.YtakaadcpaeiccabGreat
open Go.RowKit Go.Maps

/-! Links; a frame is cut; what is asked of a mesh. -/
theorem stn_link {x : SG} {s : Stn} {W : World} (h : StM x s W) (b : Nat) (hb : b < 6) (on : Bool) : StP x s { s with hrs := s.hrs.set b on } W (W.setCell ⟨x.B, 3 + b, none⟩ (.bool on)) := by
  have hl := h.hl
  refine h.set (x' := x) (s' := { s with hrs := s.hrs.set b on }) (3 + b) (.bool on) rfl ?_ (by rw [List.length_set]; exact hl) ⟨rfl, rfl⟩ (fun z hz => ⟨hz, rfl, rfl, rfl⟩)
  have hbl : b < s.hrs.length := by omega
  simp [stC, List.set_append, List.map_set, hl, Nat.add_comm 3 b]
  omega
set_option maxRecDepth 100000 in
set_option maxHeartbeats 4000000 in
theorem M_link {y : MG} {m : Msh} {w : World} (h : MM y m w) (a b : Nat) (ha : a < m.S.length) (hb : b < m.S.length) (hn : m.S.length ≤ 6) (on : Bool) : Calls Tryz.prog 29 #[.pointer (some ⟨y.G, 0, none⟩), .int .i64 a, .int .i64 b, .bool on] w fun e w' => e = .returned (.tuple #[]) ∧ MP y m (m.link a b on) w w' := by
  by_cases hab : a = b
  · subst hab
    have ho : m.link a a on = m := by unfold Msh.link; rw [if_pos rfl]
    have hfin : MP y m (m.link a a on) w w := by rw [ho]; exact MP.refl h
    clear h ho
    go_enter Tryz.func29, Tryz.ntmps29
    go_wp2
    go_returns
    exact ⟨rfl, hfin⟩
  · obtain ⟨xa, sa, g, c, e1, e2, e3, e4, p0⟩ := h.get ha
    obtain ⟨_, q1, _, _⟩ := h.cell
    rw [e4] at q1
    have hab' : ((a : Int) == (b : Int)) = false := by
      have : ¬ (a : Int) = (b : Int) := by omega
      simpa using this
    have han : (a : Int) < (m.S.length : Int) := by omega
    have hbn : (b : Int) < (m.S.length : Int) := by omega
    have ha6 : (a : Int) < 6 := by omega
    have hb6 : (b : Int) < 6 := by omega
    obtain ⟨_, _, _, _, _, hh, fz⟩ := (h.st a xa sa e1 e2).cell
    have hhl := (h.st a xa sa e1 e2).hl
    have k0 := hh b _ (List.getElem?_eq_getElem (by omega))
    have k1 := fz (3 + b)
    obtain ⟨y1, hm1, hu1⟩ := h.stp e1 e2 (stn_link (h.st a xa sa e1 e2) b (by omega) on)
    obtain ⟨m1, hm1e⟩ : ∃ m1, m.put a { sa with hrs := sa.hrs.set b on } = m1 := ⟨_, rfl⟩
    have hS1 : m1.S.length = m.S.length := by rw [← hm1e, (put_S _ _ _).1, List.length_set]
    have hl : m.link a b on = m1.put b { m1.at' b with hrs := (m1.at' b).hrs.set a on } := by
      unfold Msh.link
      rw [if_neg hab, e3, hm1e]
    rw [hm1e] at hm1 hu1
    obtain ⟨xb, sb, g', c', f1, f2, f3, f4, p1⟩ := hm1.get (i := b) (by rw [hS1]; exact hb)
    obtain ⟨_, r1, _, _⟩ := hm1.cell
    obtain ⟨_, _, _, _, _, hh', fz'⟩ := (hm1.st b xb sb f1 f2).cell
    have hhl' := (hm1.st b xb sb f1 f2).hl
    have k2 := hh' a _ (List.getElem?_eq_getElem (by omega))
    have k3 := fz' (3 + a)
    have hp2 := hm1.stp f1 f2 (stn_link (hm1.st b xb sb f1 f2) a (by omega) on)
    rw [f4, hS1] at r1
    rw [hu1.G] at r1
    have hfin : MP y m (m.link a b on) w ((w.setCell ⟨xa.B, 3 + b, none⟩ (.bool on)).setCell ⟨xb.B, 3 + a, none⟩ (.bool on)) := by
      rw [hl, f3]
      exact MP.comp hu1 hp2
    generalize sa.hrs[b] = v0 at k0
    generalize sb.hrs[a] = v1 at k2
    clear h hm1 hu1 hp2 hl hm1e e1 e2 e3 e4 f1 f2 f3 f4 hh hh' fz fz' hab
    go_enter Tryz.func29, Tryz.ntmps29
    go_wp2
    go_returns
    exact ⟨rfl, hfin⟩

theorem M_Air {y : MG} {m : Msh} {w : World} (h : MM y m w) (hl : m.air.length ≤ 100000) : Calls Tryz.prog 17 #[.pointer (some ⟨y.G, 0, none⟩)] w fun e w' => ∃ v, e = .returned v ∧ w'.ownsRow w.heap.size 149 3 v m.air.length (FlC m.air) ∧ Below w.heap.size w w' := by
  obtain ⟨i0, hi, hz0, hz1, hz2⟩ := info_parts info_fl
  obtain ⟨_, _, c2, _⟩ := h.cell
  have hrow := h.air
  have h0 : w.ownsRow w.heap.size 149 3 (.slice none 0 0) 0 [] := ⟨rfl, .inl ⟨rfl, rfl⟩⟩
  have hsrc : Src Tryz.prog 3 45 y.av m.air.length (FlC m.air) w := Src.ofRow Tryz.underlying45 hrow (one_fl _)
  have b1 : 0 + m.air.length ≤ maxLen := by unfold maxLen; omega
  have b2 : (0 + m.air.length) * 32 ≤ 140737488355328 := by omega
  clear h hrow
  go_enter Tryz.func17, Tryz.ntmps17
  go_wp2_with (at_builtin; refine wpList_append_any rfl _ _ 45 45 rfl w.heap.size 149 i0 (.agg #[.int .i64 0, .int .i64 0, .string ⟨#[]⟩]) 3 32 Tryz.underlying45 hi hz0 hz1 hz2 rfl (.slice none 0 0) 0 [] rfl h0 y.av m.air.length (FlC m.air) rfl hsrc b1 b2 (Nat.le_refl _) ?_)
  intro v7 w7 ho hg hv
  have hb : Below w.heap.size w w7 := ⟨hg.os, hg.tape, hg.output, hg.size, fun k hk => hg.block k hk (by simp [Value.ownBlock])⟩
  clear hg hv h0 hsrc
  go_wp2
  go_ret
  exact ⟨v7, rfl, ho, hb⟩
end Go.Proofs.YtakaadcpaeiccabGreat

namespace Go.Proofs.YtakaadcpaeiccabGreat
open Go.RowKit Go.Maps Go.MuLone

/-! A node's table, a station's journal. -/
theorem LsR.at9 {base : Nat} {v : Value} {L : List (Rt × Value)} {W W' : World} (h : LsR base v L W) (he : ∀ (k : Nat) (c : Array Value) (t : Nat), t ∈ ([38, 34] : List Nat) → base ≤ k → W.heap[k]? = some (Obj.cells c t (0, 0)) → W'.heap[k]? = W.heap[k]?) : LsR base v L W' :=
  ⟨row_at h.row fun k hk => by
    obtain ⟨c, hc⟩ := row_obj h.row hk
    exact he k c 38 (by decide) (h.row.lt k hk).1 hc, fun p hp => row_at (h.bef p hp) fun k hk => by
    obtain ⟨c, hc⟩ := row_obj (h.bef p hp) hk
    exact he k c 34 (by decide) ((h.bef p hp).lt k hk).1 hc⟩

set_option maxRecDepth 100000 in
set_option maxHeartbeats 2000000 in
theorem N_Routes {N : Nat} {g : NdG} {s : St} {TL : List Hp.Tm} {w : World} (n : Nn N g s TL w) (hlk : s.lk = 0) :
    Calls Tryz.prog 26 #[.pointer (some ⟨N, 0, none⟩)] w fun e w' => ∃ v L, e = .returned v ∧ L.map (·.1) = s.A ∧ LsR w.heap.size v L w' ∧ Nn N g s TL w' ∧ Fx (Ft N g s) w w' := by
  obtain ⟨c0, g0⟩ := n.lkd
  rw [hlk] at c0
  obtain ⟨n2, hg2⟩ := n.setLk 1
  have hf2 : Fx (Ft N g s) w (w.setCell ⟨N, 0, none⟩ (.int .i32 1)) := Fx.grown hg2 fun k e => by cases e; exact .inl (.inl rfl)
  have hsz : (w.setCell ⟨N, 0, none⟩ (.int .i32 1)).heap.size = w.heap.size := by simp
  have h0 : g.x.lk = 0 := n.eq.lk.trans hlk
  have hx : ({ g with x := { g.x with lk := 0 } } : NdG) = g := by rw [← h0]
  have hs0 : ({ s with lk := 0 } : St) = s := by rw [← hlk]
  have hNl := n.lt (.inl (.inl rfl))
  clear hg2
  go_enter_defers Tryz.func26, Tryz.ntmps26
  go_wp2_with fail
  refine Calls.mono (lock_free muLib ⟨N, 0, none⟩ w c0 g0) ?_
  rintro e w2 ⟨rfl, rfl⟩
  generalize World.setCell _ _ _ = W2 at n2 hf2 hsz ⊢
  have c5 := n2.cr.nd.cell.2.2.2.2.1
  dsimp only at c5
  go_wp2_with fail
  refine Calls.mono (List_any n2.cr.tb) ?_
  rintro e w3 ⟨v, L, rfl, hL, hls, hb3⟩
  obtain ⟨ao, c, rfl, hH⟩ := row_form hls.row
  have n3 := n2.later hb3
  obtain ⟨u0, g2⟩ := n3.lkd
  obtain ⟨n4, hg4⟩ := n3.setLk 0
  have hf4 : Fx (Ft N g s) w (w3.setCell ⟨N, 0, none⟩ (.int .i32 0)) := grown_Fx (hf2.trans (Fx.below (S := fun _ => False) hb3) (fun _ _ h => h.elim)) hg4 (fun i _ e => by cases e; exact .inl (.inl rfl))
  have hls4 : LsR w.heap.size (.slice ao L.length c) L (w3.setCell ⟨N, 0, none⟩ (.int .i32 0)) := by
    rw [← hsz]
    exact hls.at9 fun k cc t ht hk hc => hg4.block k (some_lt hc) fun e => by
      cases e
      have := n2.cr.nd
      rw [hsz] at hk
      omega
  have n5 : Nn N g s TL (w3.setCell ⟨N, 0, none⟩ (.int .i32 0)) := by
    have h := n4
    rw [show ({ ({ g with x := { g.x with lk := 1 } } : NdG) with x := { ({ g with x := { g.x with lk := 1 } } : NdG).x with lk := 0 } } : NdG) = { g with x := { g.x with lk := 0 } } from rfl, hx] at h
    rw [show ({ ({ s with lk := 1 } : St) with lk := 0 } : St) = { s with lk := 0 } from rfl, hs0] at h
    exact h
  dsimp only at u0
  clear n2 n3 n4 hls hg4 hf2 hH
  go_wp2_with fail
  refine leaves_cons (f := 50) (args := #[.pointer (some ⟨N, 0, none⟩)]) (by simp) (by simp [go_sem]) ?_
  refine (unlock_deferred muLib ⟨N, 0, none⟩ .returning w3 u0 g2).mono ?_
  rintro e u' w'' ⟨rfl, rfl, rfl⟩
  exact ⟨_, results_tmp rfl _ _ _, .slice ao L.length c, L, rfl, hL, hls4, n5, hf4⟩

set_option maxRecDepth 100000 in
set_option maxHeartbeats 2000000 in
theorem CloneB_any (v : Value) (n : Nat) (cs : List Int) (hn : n ≤ 1000000) (w : World) (h : w.ownsRow 0 5 1 v n (U cs)) :
    Calls Tryz.prog 40 #[v] w fun e w' => ∃ v', e = .returned v' ∧ w'.ownsRow w.heap.size 5 1 v' n (U cs) ∧ Below w.heap.size w w' := by
  obtain ⟨i0, hi, hz0, hz1, hz2⟩ := info_parts info_u8
  have h1c : ∀ u ∈ U cs, u.oneCell' = true := fun u hu => by
    obtain ⟨x, _, rfl⟩ := List.mem_map.1 hu
    rfl
  have hbe : Below w.heap.size w (w.alloc (.cells #[] 5)) := (Below.refl _ _).alloc (Nat.le_refl _) _
  have hoe : (w.alloc (.cells #[] 5)).ownsRow w.heap.size 5 1 (.slice (some ⟨w.heap.size, 0, none⟩) 0 0) 0 [] :=
    ⟨rfl, .inr ⟨w.heap.size, 0, _, rfl, Nat.le_refl _, heap_alloc_new w _, Nat.le_refl _, by decide, rfl, rfl⟩⟩
  have hne : w.heap.size ≤ (w.alloc (.cells #[] 5)).heap.size := by simp
  have hsrc' : Src Tryz.prog 1 58 v n (U cs) (w.alloc (.cells #[] 5)) := Src.ofRow Tryz.underlying58 (step_append_kept h hbe) h1c
  rcases h.2 with ⟨rfl, rfl⟩ | ⟨g, cap, cur, rfl, rest⟩
  · have hq := fun W => Lib.run_eql_slice_nil (P := Tryz.prog) W 58 5 none 0 0 0 0 Tryz.underlying58
    simp only [Option.isNone_none] at hq
    clear hbe hoe hne hsrc'
    go_enter Tryz.func40, Tryz.ntmps40
    go_wp2
    go_ret
    exact ⟨_, rfl, ⟨h.1, .inl ⟨rfl, rfl⟩⟩, Below.refl _ _⟩
  · have hq := fun W => Lib.run_eql_slice_nil (P := Tryz.prog) W 58 5 (some ⟨g, 0, none⟩) n cap 0 0 Tryz.underlying58
    simp only [Option.isNone_some] at hq
    clear rest
    go_enter Tryz.func40, Tryz.ntmps40
    go_wp2_with (at_builtin; refine wpList_append_own_src _ rfl _ _ 58 58 rfl w.heap.size 5 i0 (.int .u8 0) 1 1 Tryz.underlying58 hi hz0 hz1 hz2 rfl (.slice (some ⟨w.heap.size, 0, none⟩) 0 0) 0 [] rfl hoe (by simp) (.slice (some ⟨g, 0, none⟩) n cap) n (U cs) rfl hsrc' ?c1 ?c2 hne ?_)
    case c1 => unfold maxLen; omega
    case c2 => omega
    intro v7 W7 ho7 hg7 _
    have hb7 := hbe.grown hg7 hne (fun k hk => (hoe.lt k hk).1)
    clear hq hsrc' hbe hoe hne hg7
    go_wp2
    go_ret
    exact ⟨v7, rfl, by simpa using ho7, hb7⟩

set_option maxRecDepth 100000 in
set_option maxHeartbeats 2000000 in
theorem M_Journal {y : MG} {m : Msh} {w : World} (h : MM y m w) (k : Nat) (hk : k < m.S.length) (hjl : (m.at' k).jrn.length ≤ 1000000) : Calls Tryz.prog 18 #[.pointer (some ⟨y.G, 0, none⟩), .int .i64 k] w fun e w' => ∃ v, e = .returned v ∧ w'.ownsRow w.heap.size 5 1 v (m.at' k).jrn.length (U (m.at' k).jrn) ∧ Below w.heap.size w w' := by
  obtain ⟨x, s, g, c, e1, e2, e3, e4, p0⟩ := h.get hk
  obtain ⟨_, q1, _, _⟩ := h.cell
  rw [e4] at q1
  have c1 := (h.st k x s e1 e2).cell.2.1
  rw [e3] at hjl ⊢
  have HC := hide (CloneB_any x.jv s.jrn.length s.jrn hjl w (h.st k x s e1 e2).row)
  have HH := hide (M_has h k)
  have hb : m.has k = true := by
    unfold Msh.has
    simp [hk]
  rw [hb] at HH
  have hkn : (k : Int) < (m.S.length : Int) := by omega
  clear h e1 e2 e3 e4 hb
  go_enter Tryz.func18, Tryz.ntmps18
  go_wp2_with fail
  refine Calls.mono HH.out ?_
  rintro e w2 ⟨rfl, rfl⟩
  go_wp2_with fail
  refine Calls.mono HC.out ?_
  rintro e w3 ⟨v, rfl, ho, hb3⟩
  clear HC HH
  go_wp2
  go_ret
  exact ⟨v, rfl, ho, hb3⟩

set_option maxRecDepth 100000 in
set_option maxHeartbeats 2000000 in
theorem M_Routes {y : MG} {m : Msh} {w : World} (h : MM y m w) (k : Nat) (hk : k < m.S.length) (hlk : ∀ z, (m.at' k).nd = some z → z.lk = 0) : Calls Tryz.prog 12 #[.pointer (some ⟨y.G, 0, none⟩), .int .i64 k] w fun e w' => ∃ v L, e = .returned v ∧ L.map (·.1) = m.tab k ∧ LsR w.heap.size v L w' ∧ MP y m m w w' := by
  obtain ⟨x, s, g, c, e1, e2, e3, e4, p0⟩ := h.get hk
  obtain ⟨_, q1, _, _⟩ := h.cell
  rw [e4] at q1
  have c2 := (h.st k x s e1 e2).cell.2.2.1
  have HR := hide (M_Runs h k)
  have hkn : (k : Int) < (m.S.length : Int) := by omega
  have hrun : m.runs k = s.nd.isSome := by
    unfold Msh.runs Msh.has
    simp [hk, e3]
  rw [hrun] at HR
  rw [e3] at hlk
  have htab : m.tab k = match s.nd with | none => [] | some z => z.A := by
    unfold Msh.tab
    rw [e3]
    cases s.nd <;> rfl
  rw [htab]
  cases hnd : s.nd with
  | none =>
    rw [hnd] at HR
    simp only [Option.isSome_none] at HR
    have hfin := MP.refl h
    clear h e1 e2 e3 e4 hrun q1 c2 p0
    go_enter Tryz.func12, Tryz.ntmps12
    go_wp2_with fail
    refine Calls.mono HR.out ?_
    rintro e w2 ⟨rfl, rfl⟩
    go_wp2
    go_ret
    exact ⟨_, [], rfl, rfl, ⟨⟨rfl, .inl ⟨rfl, rfl⟩⟩, fun p hp => by cases hp⟩, hfin⟩
  | some z =>
    rw [hnd] at HR c2
    simp only [Option.isSome_some] at HR
    unfold ndV at c2
    obtain ⟨nn, tm⟩ := (h.st k x s e1 e2).nd z hnd
    have HN := N_Routes nn (hlk z hnd)
    have HN2 : Hid (Calls Tryz.prog 26 #[.pointer (some ⟨x.N, 0, none⟩)] w fun e w' => ∃ v L, e = .returned v ∧ L.map (·.1) = z.A ∧ LsR w.heap.size v L w' ∧ MP y m m w w') := by
      refine HN.mono ?_
      rintro e w' ⟨v, L, rfl, hL, hls, n2, fx⟩
      have hst := h.st k x s e1 e2
      have hB : ¬ Ft x.N x.g z x.B := fun hk => by
        obtain ⟨o, ho, hK⟩ := nn.kind hk
        rw [hst.blk] at ho
        cases ho
        exact hK.not (by decide)
      have hJ : ∀ k, x.jv.ownBlock = some k → ¬ Ft x.N x.g z k := fun k hk hf => by
        obtain ⟨o, ho, hK⟩ := nn.kind hf
        obtain ⟨cc, hc⟩ := row_obj hst.row hk
        rw [hc] at ho
        cases ho
        exact hK.not (by decide)
      have hp : StP x s s w w' := ⟨x, rfl, ⟨(fx.block _ (some_lt hst.blk) hB).trans hst.blk, hst.hl, row_at hst.row fun k hk => fx.block k (hst.row.lt k hk).2 (hJ k hk), fun u hu => by
        rw [hnd] at hu
        cases hu
        exact ⟨n2, tm⟩⟩, fx.mono fun k hk => .inr (.inr ⟨z, hnd, hk⟩), fun k hk => .inl hk⟩
      have hmp := h.stp e1 e2 hp
      have hput : m.put k s = m := by
        unfold Msh.put
        have : m.S.set k s = m.S := by
          obtain ⟨h5, h6⟩ := List.getElem?_eq_some_iff.1 e2
          rw [← h6]
          exact List.set_getElem_self h5
        rw [this]
      exact ⟨v, L, rfl, hL, hls, hmp.eq hput⟩
    clear h e1 e2 e3 e4 hrun HN nn tm
    go_enter Tryz.func12, Tryz.ntmps12
    go_wp2_with fail
    refine Calls.mono HR.out ?_
    rintro e w2 ⟨rfl, rfl⟩
    go_wp2_with fail
    refine Calls.mono HN2.out ?_
    rintro e w3 ⟨v, L, rfl, hL, hls, hp⟩
    clear HN2 HR
    go_wp2
    go_ret
    exact ⟨v, L, rfl, hL, hls, hp⟩
end Go.Proofs.YtakaadcpaeiccabGreat

namespace Go.Proofs.YtakaadcpaeiccabGreat
open Go.RowKit Go.Maps

/-! Time goes by. -/
theorem MM.setNow {y : MG} {m : Msh} {W : World} (h : MM y m W) (t : Int) : MM y { m with now := t } (W.setCell ⟨y.G, 0, none⟩ (.int .u64 t)) ∧ MU y m y { m with now := t } W (W.setCell ⟨y.G, 0, none⟩ (.int .u64 t)) := by
  have hg : W.grownBy (W.setCell ⟨y.G, 0, none⟩ (.int .u64 t)) (some y.G) := grown_cellOf (grown_self _ (some y.G)) 0 _
  refine ⟨⟨?_, h.sts.kept hg (.inr (row_not h.sts h.blk (fun c e => (by cases e)))), h.air.kept hg (.inr (row_not h.air h.blk (fun c e => (by cases e)))), h.len, fun i x s h1 h2 => (h.st i x s h1 h2).kept fun k hk => hg.block k ((h.st i x s h1 h2).lt hk) fun e => (h.own h1 h2 hk).1 (Option.some.inj e), h.ap⟩, Fx.grown hg fun k e => by cases e; exact .inl rfl, fun k hk => .inl hk, rfl, rfl, rfl, rfl⟩
  simp [World.setCell, Array.getElem?_modify, h.blk]
/-- k nodes have been told the time. -/
def tickK (m : Msh) (k : Nat) : Msh × List Ev := (List.range k).foldl Msh.tick1 (m, [])
theorem tickK_succ (m : Msh) (k : Nat) : tickK m (k + 1) = Msh.tick1 (tickK m k) k := by
  unfold tickK
  rw [List.range_succ, List.foldl_append]
  rfl
theorem tick1_none {z : Msh × List Ev} {i : Nat} (h : (z.1.at' i).nd = none) : Msh.tick1 z i = z := by
  unfold Msh.tick1
  rw [h]
theorem tick1_some {z : Msh × List Ev} {i : Nat} {s : St} (h : (z.1.at' i).nd = some s) : Msh.tick1 z i = ((z.1.act i (s.tck z.1.now)).1, z.2 ++ (z.1.act i (s.tck z.1.now)).2) := by
  unfold Msh.tick1
  rw [h]
theorem didW_now (φ : Msh → Int × ByteArray → Msh × List Ev) (hφ : ∀ m f, (φ m f).1.now = m.now) (m : Msh) (i : Nat) (o : Ot) : (m.didW φ i o).1.now = m.now := by
  have hg : ∀ (L : List (Int × ByteArray)) (z : Msh × List Ev), (L.foldl (didF φ) z).1.now = z.1.now := by
    intro L
    induction L with
    | nil => intro z; rfl
    | cons f L ih =>
      intro z
      rw [List.foldl_cons, ih]
      exact hφ z.1 f
  unfold Msh.didW
  split
  · rfl
  · split
    · exact hg _ _
    · rfl
theorem out0_now (i : Nat) (m : Msh) (f : Int × ByteArray) : (m.out0 i f).1.now = m.now := (sendF_S m i f).2
theorem out1_now (i : Nat) (m : Msh) (f : Int × ByteArray) : (m.out1 i f).1.now = m.now := by
  unfold Msh.out1
  split
  · exact (sendF_S m i f).2
  · split
    · exact (sendF_S m i f).2
    · unfold Msh.didB
      rw [didW_now _ (out0_now i)]
      exact (sendF_S m i f).2
theorem act_now (m : Msh) (i : Nat) (z : St) : (m.act i z).1.now = m.now ∧ (m.act i z).1.S.length = m.S.length := by
  refine ⟨didW_now _ (out1_now i) _ i _, ?_⟩
  show (Msh.didW (Msh.out1 i) (m.put i _) i _).1.S.length = _
  rw [didW_S _ (out1_S i), (put_S _ _ _).1, List.length_set]
theorem didW_evs (φ : Msh → Int × ByteArray → Msh × List Ev) (hφ : ∀ m f, (φ m f).2.length ≤ 1) (m : Msh) (i : Nat) (o : Ot) : (m.didW φ i o).2.length ≤ 1 + o.frs.length := by
  cases hi : o.idle
  · cases hw : ((m.at' i).write o).2
    · unfold Msh.didW
      rw [if_neg (by simp [hi]), if_neg (by simp [hw])]
      simp
    · rw [didW_all φ m i o hi hw]
      exact didK_len hφ m i o _ (Nat.le_refl _)
  · unfold Msh.didW
    rw [if_pos hi]
    simp

set_option maxRecDepth 100000 in
set_option maxHeartbeats 8000000 in
theorem M_tick {y : MG} {m : Msh} {w : World} (h : MM y m w) {κ : Int} {q : Nat} (hok : MOk κ q m) (hκ : 0 ≤ κ ∧ κ ≤ 90000000000) (hq : q ≤ 4990) (n : Int) (hnow : m.now + 60000 ≤ 4611686018427387904) :
    Calls Tryz.prog 31 #[.pointer (some ⟨y.G, 0, none⟩), .int .i64 n] w fun e w' => DidP y m (m.tick n).1 (m.tick n).2 w.heap.size w e w' ∧ MOk (κ + 1000000) q (m.tick n).1 := by
  by_cases hn : n < 1 ∨ n > 60000
  · have ho : m.tick n = (m, []) := by
      unfold Msh.tick
      rw [if_pos hn]
    have hfin : DidP y m (m.tick n).1 (m.tick n).2 w.heap.size w (.returned (.slice none 0 0)) w ∧ MOk (κ + 1000000) q (m.tick n).1 := by
      rw [ho]
      exact ⟨⟨_, [], rfl, rfl, EvsM.nil _ _, MP.refl h⟩, hok.up (by omega) (Nat.le_refl _)⟩
    replace hfin := hide hfin
    clear h ho hok
    by_cases h1 : n < 1
    · go_enter Tryz.func31, Tryz.ntmps31
      go_wp2
      go_ret
      exact hfin.out
    · have h2 : 60000 < n := by omega
      go_enter Tryz.func31, Tryz.ntmps31
      go_wp2
      go_ret
      exact hfin.out
  · have hn1 : ¬ n < 1 := fun h => hn (.inl h)
    have hn2 : ¬ 60000 < n := fun h => hn (.inr h)
    have ho : m.tick n = tickK { m with now := m.now + n } m.S.length := by
      unfold Msh.tick
      rw [if_neg hn]
      rfl
    obtain ⟨hs1, hu1⟩ := h.setNow (m.now + n)
    have hok1 : MOk κ q { m with now := m.now + n } := ⟨hok.n, hok.air, by have := hok.now; dsimp only; omega, fun s hs => (hok.st s hs).up (Int.le_refl _) (Nat.le_refl _) (by dsimp only; omega)⟩
    obtain ⟨c0, c1, _, fz⟩ := h.cell
    have f0 := fz 0
    obtain ⟨sa, sc, hsv⟩ := h.svf
    rw [hsv] at c1
    have hw1 : IntKind.u64.wrap n = n := by
      simp only [IntKind.wrap, IntKind.signed, IntKind.bits]
      simp
      omega
    have hw2 : IntKind.u64.wrap (m.now + n) = m.now + n := by
      have := hok.now
      simp only [IntKind.wrap, IntKind.signed, IntKind.bits]
      simp
      omega
    rw [ho]
    have hnS : ({ m with now := m.now + n } : Msh).S.length = m.S.length := rfl
    obtain ⟨m1, hm1⟩ : ∃ m1, ({ m with now := m.now + n } : Msh) = m1 := ⟨_, rfl⟩
    rw [hm1] at hs1 hu1 hok1 hnS ⊢
    have hrel0 : Hid (∃ y' L, MM y' (tickK m1 0).1 (w.setCell ⟨y.G, 0, none⟩ (.int .u64 (m.now + n))) ∧ MU y m y' (tickK m1 0).1 w (w.setCell ⟨y.G, 0, none⟩ (.int .u64 (m.now + n))) ∧ MOk (κ + 100001 * (0 : Nat)) q (tickK m1 0).1 ∧ (tickK m1 0).1.now = m1.now ∧ (tickK m1 0).1.S.length = m.S.length ∧ EvsM w.heap.size (.slice none 0 0) L (w.setCell ⟨y.G, 0, none⟩ (.int .u64 (m.now + n))) ∧ L.map (·.1) = (tickK m1 0).2 ∧ L.length ≤ 100001 * 0) :=
      ⟨y, [], hs1, hu1, hok1.up (by omega) (Nat.le_refl _), rfl, hnS, EvsM.nil _ _, rfl, by simp⟩
    have u1 := hs1.cell.2.1
    rw [hsv] at u1
    have hmS : m.S.length ≤ 6 := hok.n
    obtain ⟨i0, hi0, hz0, hz1, hz2⟩ := info_parts info_ev
    clear h hs1 hu1 hok1 hok ho fz hm1
    go_enter Tryz.func31, Tryz.ntmps31
    go_upto_region 4 with (fail)
    generalize World.setCell _ _ _ = W1 at hrel0 u1 ⊢
    clear c0 c1 f0
    go_wp2_with fail
    go_loopw [5, 28] (fun ev iv wr => ∃ k : Nat, k ≤ m.S.length ∧ iv = .int .i64 k ∧ Hid (∃ y' L, MM y' (tickK m1 k).1 wr ∧ MU y m y' (tickK m1 k).1 w wr ∧ MOk (κ + 100001 * k) q (tickK m1 k).1 ∧ (tickK m1 k).1.now = m1.now ∧ (tickK m1 k).1.S.length = m.S.length ∧ EvsM w.heap.size ev L wr ∧ L.map (·.1) = (tickK m1 k).2 ∧ L.length ≤ 100001 * k)) (fun _ iv _ => m.S.length - (intOf iv).toNat)
    case atStart => exact ⟨0, Nat.zero_le _, rfl, hrel0⟩
    case round =>
      clear hrel0 u1
      obtain ⟨k, hk, rfl, hr⟩ := hrel
      by_cases hkl : k < m.S.length
      · have hki : (k : Int) < (m.S.length : Int) := by omega
        obtain ⟨y', L, hm, hu, hmo, hN, hSl, hev, hL, hLl⟩ := hr.out
        obtain ⟨x, s, g, c, e1, e2, e3, e4, p0⟩ := hm.get (i := k) (by rw [hSl]; exact hkl)
        have hsa : sa = some ⟨g, 0, none⟩ := by
          have h5 := e4
          rw [hu.sv, hsv] at h5
          injection h5 with h5 _ _
        subst hsa
        have c2 := (hm.st k x s e1 e2).cell.2.2.1
        have hk1 : k + 1 ≤ m.S.length := by omega
        have hme := meas_lt hkl
        cases hnd : s.nd with
        | none =>
          rw [hnd] at c2
          unfold ndV at c2
          have hr2 : Hid (∃ y' L, MM y' (tickK m1 (k + 1)).1 wr ∧ MU y m y' (tickK m1 (k + 1)).1 w wr ∧ MOk (κ + 100001 * (k + 1 : Nat)) q (tickK m1 (k + 1)).1 ∧ (tickK m1 (k + 1)).1.now = m1.now ∧ (tickK m1 (k + 1)).1.S.length = m.S.length ∧ EvsM w.heap.size u5 L wr ∧ L.map (·.1) = (tickK m1 (k + 1)).2 ∧ L.length ≤ 100001 * (k + 1)) := by
            show ∃ y' L, _
            rw [tickK_succ, tick1_none (by rw [e3]; exact hnd)]
            exact ⟨y', L, hm, hu, hmo.up (by omega) (Nat.le_refl _), hN, hSl, hev, hL, by omega⟩
          have hw64 : wrap64 ((k : Int) + 1) = (k : Int) + 1 := by unfold wrap64; omega
          clear hr hm hu hmo hev hL hLl e1 e2 e3 e4
          go_wp2
          try rw [hw64]
          go_roundw
          case rel =>
            first
              | exact ⟨k + 1, hk1, by go_num, hr2⟩
              | exact ⟨_, _, ⟨k + 1, hk1, by go_num, hr2⟩, rfl⟩
              | (repeat apply Exists.intro
                 refine ⟨⟨k + 1, hk1, by go_num, hr2⟩, rfl⟩)
          case measure => exact hme
        | some z =>
          rw [hnd] at c2
          unfold ndV at c2
          have hnk := (hmo.at e2).nd z hnd
          have hd1 : Below wr.heap.size wr wr.drew := (Below.refl _ _).drew
          have hmd := hm.later hd1
          obtain ⟨nn, tm⟩ := (hmd.st k x s e1 e2).nd z hnd
          have hsr := nn.srs
          have HT := N_Tick nn hnk.inv (by omega) tm hnk.pos m1.now ⟨by have := hnk.nw; rw [hN] at this; exact this, by have := hmo.now.2; rw [hN] at this; exact this⟩
          have q0 := hm.cell.1
          rw [hN, hu.G] at q0
          obtain ⟨M, hMe⟩ : ∃ M, (tickK m1 k).1 = M := ⟨_, rfl⟩
          have hsucc : tickK m1 (k + 1) = ((M.act k (z.tck m1.now)).1, (tickK m1 k).2 ++ (M.act k (z.tck m1.now)).2) := by
            rw [tickK_succ, tick1_some (by rw [e3]; exact hnd), hN, hMe]
          rw [hMe] at hm hu hmo hN hSl e2 e3 hmd
          have HT2 : Hid (Calls Tryz.prog 20 #[.pointer (some ⟨x.N, 0, none⟩), .int .u64 m1.now] wr.drew fun e w2 => ∃ frm cam drp y2, e = .returned (outV (z.tck m1.now).jrn (z.tck m1.now).rep frm cam drp) ∧ OutR wr.heap.size (z.tck m1.now).frs (z.tck m1.now).cms (z.tck m1.now).drs frm cam drp w2 ∧ wr.heap.size ≤ w2.heap.size ∧ MM y2 (M.put k { s with nd := some (z.tck m1.now) }) w2 ∧ MU y' M y2 (M.put k { s with nd := some (z.tck m1.now) }) wr w2 ∧ DOk (κ + 100001 * k + 1) q (M.put k { s with nd := some (z.tck m1.now) }) k (z.tck m1.now)) := by
            refine HT.mono ?_
            rintro e w2 ⟨o, rfl, hI2, hcp⟩
            obtain ⟨s', hp1, hp2⟩ := tck_prs z m1.now hsr
            have hrest := prs_rest hp1
            have hcnt := cnt_call hp1
            rw [← hp2] at hrest hcnt
            obtain ⟨frm, cam, drp, y2, rfl, hor, hm2, hu2, hdk⟩ := act_pre hmd hmo e1 e2 hnd hcp hI2.out (pos_tck hnk.pos hnk.inv.tl.1 m1.now) hrest.1 (hrest.2.trans hN.symm) (Nat.le_refl _) (Nat.le_trans (tck_Ql _ _) hnk.ql) hcnt
            exact ⟨frm, cam, drp, y2, rfl, hor, hu2.fx.size, hm2, hu2.pre hd1, hdk⟩
          have hDD : Hid (∀ frm cam drp y2 w2, OutR wr.heap.size (z.tck m1.now).frs (z.tck m1.now).cms (z.tck m1.now).drs frm cam drp w2 → wr.heap.size ≤ w2.heap.size → MM y2 (M.put k { s with nd := some (z.tck m1.now) }) w2 → MU y' M y2 (M.put k { s with nd := some (z.tck m1.now) }) wr w2 → DOk (κ + 100001 * k + 1) q (M.put k { s with nd := some (z.tck m1.now) }) k (z.tck m1.now) → Calls Tryz.prog 36 #[.pointer (some ⟨y.G, 0, none⟩), .int .i64 k, outV (z.tck m1.now).jrn (z.tck m1.now).rep frm cam drp] w2 fun e w3 => ∃ v2 L2, e = .returned v2 ∧ L2.length ≤ 100001 ∧ w3.ownsRow w.heap.size 54 7 u5 L.length (EvC L) ∧ w3.ownsRow wr.heap.size 54 7 v2 L2.length (EvC L2) ∧ (∀ u ∈ EvC L2, u.oneCell' = true) ∧ w.heap.size ≤ w3.heap.size ∧ ∀ v' w', w'.ownsRow w.heap.size 54 7 v' (L.length + L2.length) (EvC L ++ EvC L2) → w3.grownBy w' u5.ownBlock → ∃ y' L, MM y' (tickK m1 (k + 1)).1 w' ∧ MU y m y' (tickK m1 (k + 1)).1 w w' ∧ MOk (κ + 100001 * (k + 1 : Nat)) q (tickK m1 (k + 1)).1 ∧ (tickK m1 (k + 1)).1.now = m1.now ∧ (tickK m1 (k + 1)).1.S.length = m.S.length ∧ EvsM w.heap.size v' L w' ∧ L.map (·.1) = (tickK m1 (k + 1)).2 ∧ L.length ≤ 100001 * (k + 1)) := by
            intro frm cam drp y2 w2 hor hsz hm2 hu2 hdk
            have hd := M_didA hm2 hdk frm cam drp wr.heap.size hor hsz
            rw [hu2.G, hu.G] at hd
            refine hd.mono ?_
            rintro e w3 ⟨v2, L2, rfl, hL2, hev2, y3, hm3, hu3⟩
            have hl2 : L2.length ≤ 100001 := by
              have h6 := congrArg List.length hL2
              rw [List.length_map] at h6
              have h7 := didW_evs (Msh.out1 k) (out1_len k) (M.put k { s with nd := some (z.tck m1.now) }) k (z.tck m1.now).ot
              obtain ⟨_, _, h8⟩ := hdk.pre
              have h9 := h8.nd.inv.frl
              have h10 : (z.tck m1.now).ot.frs.length = (z.tck m1.now).frs.length := rfl
              have h11 : ((M.put k { s with nd := some (z.tck m1.now) }).did k (z.tck m1.now).ot).2.length = (Msh.didW (Msh.out1 k) (M.put k { s with nd := some (z.tck m1.now) }) k (z.tck m1.now).ot).2.length := rfl
              omega
            have hu23 := hu2.trans hu3
            have hev3 := hev.mesh hm hu23.fx
            have hut := hu.trans hu23
            have hz0 := hu.fx.size
            have hz3 := hut.fx.size
            refine ⟨v2, L2, rfl, hl2, hev3.row, hev2.row, hev2.one, hz3, fun v' w' ho' hg' => ?_⟩
            have hmk := did_ok hdk
            have hac := act_now M k (z.tck m1.now)
            have hae := act_eq e2 (z.tck m1.now)
            have hbE : ∀ k5, MIn y3 ((M.put k { s with nd := some (z.tck m1.now) }).did k (z.tck m1.now).ot).1 k5 → w'.heap[k5]? = w3.heap[k5]? := fun k5 hk5 => hg'.block k5 (hm3.lt hk5) fun e5 => by
              obtain ⟨cc, hc5⟩ := row_obj hev3.row e5.symm
              exact hm3.notE (by decide) hc5 hk5
            rw [hsucc, hae]
            rw [hae] at hac
            refine ⟨y3, L ++ L2, hm3.kept hbE, ⟨grown_Fx hut.fx hg' (fun j5 hj5 e5 => ?_), fun k5 hk5 => (hut.sub k5 hk5).imp_right fun h => ⟨h.1, Nat.lt_of_lt_of_le h.2 hg'.size⟩, hut.G, hut.n, hut.sv, hut.B⟩, hmk.up (by omega) (Nat.le_refl _), hac.1.trans hN, hac.2.trans hSl, hev3.append hev2 hz0 (fun x hx k5 hk5 => ((hev.out x hx).lt hk5).2) ho' hg', ?_, by rw [List.length_append]; omega⟩
            · have := (hev.row.lt j5 e5).1
              omega
            · rw [List.map_append, hL, hL2]
          have hrowl : Hid (∀ n2, n2 ≤ 100001 → L.length + n2 ≤ maxLen ∧ (L.length + n2) * 112 ≤ 140737488355328) := fun n2 h2 => by unfold maxLen; omega
          have hw64 : wrap64 ((k : Int) + 1) = (k : Int) + 1 := by unfold wrap64; omega
          obtain ⟨zt, hzt⟩ : ∃ zt, z.tck m1.now = zt := ⟨_, rfl⟩
          rw [hzt] at HT2 hDD
          obtain ⟨N, hNN⟩ : ∃ N, x.N = N := ⟨_, rfl⟩
          rw [hNN] at HT2 c2
          clear hr hm hu hmo hev hL hLl e1 e2 e3 e4 HT hzt hNN hsucc hMe hN hSl hnk nn tm hsr hmd hd1
          go_upto_region 9 with (fail)
          go_region_law (first
            | (go_simp; go_at_call 20; refine HT2.out.mono ?_; rintro e w2 ⟨frm, cam, drp, y2, rfl, hor, hsz, hm2, hu2, hdk⟩; have HDc := hide (hDD.out _ _ _ _ _ hor hsz hm2 hu2 hdk); clear hor hsz hm2 hu2 hdk)
            | (go_simp; go_at_call 36; refine HDc.out.mono ?_; rintro e w3 ⟨v2, L2, rfl, hl2, hr1, hr2, h1c, hbw, hnx⟩; replace hnx := hide hnx; obtain ⟨hmx1, hmx2⟩ := hrowl.out _ hl2)
            | (refine step_append_rows rfl (.tmp 38) (.tmp 50) 29 rfl w.heap.size 54 i0 (.agg #[.int .i64 0, .int .i64 0, .string ⟨#[]⟩, .bool false, .slice none 0 0, .slice none 0 0, .slice none 0 0]) 7 112 Tryz.underlying29 hi0 hz0 hz1 hz2 rfl (by decide) u5 L.length (EvC L) ?h1 hr1 wr.heap.size v2 L2.length (EvC L2) ?h2 hr2 h1c hmx1 hmx2 hbw ?_; (case h1 => simp [Act.eval, Act.put]); (case h2 => simp [Act.eval, Act.put]); intro v7 w7 ho7 hg7; have hr7 := hide (hnx.out v7 w7 ho7 hg7)))
          all_goals
            clear HDc hnx hrowl HT2 hDD hr1 hr2 h1c
            go_wp2
            try rw [hw64]
            go_roundw
            case rel =>
              first
                | exact ⟨k + 1, hk1, by go_num, hr7⟩
                | exact ⟨_, _, ⟨k + 1, hk1, by go_num, hr7⟩, rfl⟩
                | (repeat apply Exists.intro
                   refine ⟨⟨k + 1, hk1, by go_num, hr7⟩, rfl⟩)
            case measure => exact hme
      · obtain rfl : k = m.S.length := by omega
        obtain ⟨y', L, hm, hu, hmo, hN, hSl, hev, hL, hLl⟩ := hr.out
        have hfin : DidP y m (tickK m1 m.S.length).1 (tickK m1 m.S.length).2 w.heap.size w (.returned u5) wr ∧ MOk (κ + 1000000) q (tickK m1 m.S.length).1 := ⟨⟨_, L, rfl, hL, hev, y', hm, hu⟩, hmo.up (by omega) (Nat.le_refl _)⟩
        replace hfin := hide hfin
        clear hr hm hu hmo hev hL hLl hN hSl
        go_wp2
        go_ret
        exact hfin.out
end Go.Proofs.YtakaadcpaeiccabGreat
