import Derived.Test.YtakaadcpaeiccabGreatC59
import Derived.BigQuiet
import Derived.Test.YtakaadcpaeiccabGreatC06
import Derived.ProofKit
import Derived.ChangeMaps5
import Derived.Lib.SmallJoins
import Derived.Deep.Strs
namespace Go.Proofs.YtakaadcpaeiccabGreat
open Go.RowKit Go.Maps

/-! Bounded. -/
def OpC (L : List Op) : List Value := L.flatMap fun o => [.int .i64 o.dow, .int .i64 o.a, .int .i64 o.b, .int .i64 o.n, .bool o.on, .string o.txt]
theorem OpC_at {W : World} {ao : Option Addr} {L : List Op} (h : HoldsC W ao (OpC L)) {k : Nat} {o : Op} (hk : L[k]? = some o) : ∃ g f, ao = some ⟨g, f, none⟩ ∧ g < W.heap.size ∧ W.cell? ⟨g, f + k * 6, none⟩ = some (.int .i64 o.dow) ∧ W.cell? ⟨g, f + k * 6 + 1, none⟩ = some (.int .i64 o.a) ∧ W.cell? ⟨g, f + k * 6 + 2, none⟩ = some (.int .i64 o.b) ∧ W.cell? ⟨g, f + k * 6 + 3, none⟩ = some (.int .i64 o.n) ∧ W.cell? ⟨g, f + k * 6 + 4, none⟩ = some (.bool o.on) ∧ W.cell? ⟨g, f + k * 6 + 5, none⟩ = some (.string o.txt) := by
  have hat : ∀ i u, i < 6 → ([.int .i64 o.dow, .int .i64 o.a, .int .i64 o.b, .int .i64 o.n, .bool o.on, .string o.txt] : List Value)[i]? = some u → (OpC L)[k * 6 + i]? = some u := fun i u hi hu => (flat_at (fun o : Op => ([.int .i64 o.dow, .int .i64 o.a, .int .i64 o.b, .int .i64 o.n, .bool o.on, .string o.txt] : List Value)) 6 (by decide) (fun _ => rfl) L k i hi hk).trans hu
  obtain ⟨g, f, e, hl, _⟩ := h (k * 6 + 0) _ (hat 0 _ (by decide) rfl)
  refine ⟨g, f, e, hl, h.one e (hat 0 _ (by decide) rfl), ?_, ?_, ?_, ?_, ?_⟩
  · have := h.one e (hat 1 _ (by decide) rfl); rw [← Nat.add_assoc] at this; exact this
  · have := h.one e (hat 2 _ (by decide) rfl); rw [← Nat.add_assoc] at this; exact this
  · have := h.one e (hat 3 _ (by decide) rfl); rw [← Nat.add_assoc] at this; exact this
  · have := h.one e (hat 4 _ (by decide) rfl); rw [← Nat.add_assoc] at this; exact this
  · have := h.one e (hat 5 _ (by decide) rfl); rw [← Nat.add_assoc] at this; exact this
/-- What holds of a node's table, and of its journal. -/
theorem SQ.tab {w : World} {n i : Nat} {y : MG} {m : Msh} {W : World} (h : SQ w n i y m W) {k : Nat} (hk : k < n) :
    (∀ x ∈ m.tab k, x.bef.length ≤ 4 ∧ (x.valid = false → x.bef = []) ∧ x.dest ≠ 10 * (k : Int) + 10) ∧ Asc (m.tab k) ∧ (m.tab k).length ≤ 8 ∧ (∀ z, (m.at' k).nd = some z → z.lk = 0) ∧ (m.at' k).jrn.length ≤ 2000 ∧ (m.runs k = true → ∃ c : Nat, (m.at' k).jrn.length = 13 * c ∧ 0 < c ∧ c ≤ 24) := by
  obtain ⟨x, s, b, c, e1, e2, e3, _⟩ := h.mm.get (i := k) (by rw [h.len]; exact hk)
  have hs := h.ok.at e2
  have hst := h.mm.st k x s e1 e2
  have ha := (h.addr e2).2
  rw [e3]
  have hruns : m.runs k = s.nd.isSome := by
    unfold Msh.runs Msh.has
    rw [Int.toNat_natCast, e3, h.len]
    simp [hk]
  cases hz : s.nd with
  | none =>
    have ht : m.tab k = [] := by unfold Msh.tab; rw [e3, hz]
    rw [ht, hruns, hz]
    exact ⟨fun x hx => (by cases hx), List.Pairwise.nil, Nat.zero_le _, fun z hz => (by cases hz), hs.jl, fun h => (by cases h)⟩
  | some z =>
    have ht : m.tab k = z.A := by unfold Msh.tab; rw [e3, hz]
    obtain ⟨n0, _⟩ := hst.nd z hz
    have hn := hs.nd z hz
    have hk' := h.fk.2 k s z e2 hz
    rw [ht]
    refine ⟨fun x hx => ⟨(hn.ok x hx).befs, (hk'.tb x hx).2, ?_⟩, n0.cr.tb.asc, hn.len, fun u hu => by cases hu; exact hn.inv.lk, hs.jl, fun _ => ?_⟩
    · rw [← ha, ← hn.me]
      exact (hk'.tb x hx).1
    · obtain ⟨j1, j2⟩ := hs.jn z hz
      have := hn.inv.cnt
      exact ⟨z.cnt.toNat, by omega, by omega, by omega⟩
/-- A line of a table, as it lies. -/
theorem bd_line {bs g c : Nat} {Lr : List (Rt × Value)} {W : World} {d0 : Int} (hls : LsR bs (.slice (some ⟨g, 0, none⟩) Lr.length c) Lr W) (t1 : ∀ x ∈ Lr.map (·.1), x.bef.length ≤ 4 ∧ (x.valid = false → x.bef = []) ∧ x.dest ≠ d0) (t2 : Asc (Lr.map (·.1))) {t : Nat} (htn : t < Lr.length) :
    ∃ (dd : Int) (bv : Bool) (ab : Option Addr) (nb cb : Nat), W.cell? ⟨g, t * 7, none⟩ = some (.int .u32 dd) ∧ W.cell? ⟨g, t * 7 + 4, none⟩ = some (.bool bv) ∧ W.cell? ⟨g, t * 7 + 6, none⟩ = some (.slice ab nb cb) ∧ decide (4 < (nb : Int)) = false ∧ (bv = false → nb = 0) ∧ (dd == d0) = false ∧ (0 < t → ∃ d, W.cell? ⟨g, (t - 1) * 7, none⟩ = some (.int .u32 d) ∧ W.cell? ⟨g, ((t : Int) - 1).toNat * 7, none⟩ = some (.int .u32 d) ∧ decide (d ≥ dd) = false) := by
  obtain ⟨p, hp⟩ : ∃ p, Lr[t]? = some p := ⟨_, List.getElem?_eq_getElem htn⟩
  obtain ⟨x1, x2, x3⟩ := t1 p.1 (List.mem_map.2 ⟨p, List.mem_of_getElem? hp, rfl⟩)
  have k0 := (hls.row.cellAt (t * 7 + 0) (by omega)).trans (RtC_at hp (by decide))
  have k4 := (hls.row.cellAt (t * 7 + 4) (by omega)).trans (RtC_at hp (by decide))
  have k6 := (hls.row.cellAt (t * 7 + 6) (by omega)).trans (RtC_at hp (by decide))
  obtain ⟨ab, cb, hpv, _⟩ := row_form (hls.bef p (List.mem_of_getElem? hp))
  obtain ⟨x, xv⟩ := p
  dsimp only at x1 x2 x3 hpv
  subst hpv
  refine ⟨x.dest, x.valid, ab, x.bef.length, cb, k0, k4, k6, decide_eq_false (by omega), fun h => by rw [x2 h]; rfl, by simpa using x3, ?_⟩
  intro h0
  obtain ⟨p', hp'⟩ : ∃ p', Lr[t - 1]? = some p' := ⟨_, List.getElem?_eq_getElem (by omega)⟩
  have hc := (hls.row.cellAt ((t - 1) * 7 + 0) (by omega)).trans (RtC_at hp' (by decide))
  refine ⟨p'.1.dest, hc, by rw [show ((t : Int) - 1).toNat = t - 1 by omega]; exact hc, decide_eq_false ?_⟩
  have := Asc.get t2 (i := t - 1) (j := t) (x := p'.1) (y := x) (by rw [List.getElem?_map, hp']; rfl) (by rw [List.getElem?_map, hp]; rfl) (by omega)
  omega
theorem dec_pos {t : Nat} (h : 0 < t) : decide (0 < (t : Int)) = true ∧ decide (0 < t) = true := ⟨decide_eq_true (by omega), decide_eq_true h⟩
theorem dec_zero {t : Nat} (h : t = 0) : decide (0 < (t : Int)) = false ∧ decide (0 < t) = false := ⟨decide_eq_false (by omega), decide_eq_false (by omega)⟩
theorem nat_pred {t l : Nat} (h0 : t ≠ 0) (hl : t < l) : 0 < t ∧ (0 : Int) < (t : Int) ∧ 0 ≤ (t : Int) - 1 ∧ (t : Int) - 1 < (l : Int) := by omega
theorem jn_facts {jn c0 : Nat} (h : jn = 13 * c0) (h0 : 0 < c0) (h1 : c0 ≤ 24) : ((jn : Int) == 0) = false ∧ (jn : Int).tmod 13 = 0 ∧ decide (312 < (jn : Int)) = false := by
  refine ⟨by simp; omega, ?_, decide_eq_false (by omega)⟩
  rw [Int.tmod_eq_emod_of_nonneg (by omega)]
  omega
theorem pick5 {c : Int} : ∃ n : Nat, 2 ≤ n ∧ n ≤ 6 ∧ 2 + pickI c 5 = (n : Int) ∧ wrap64 (2 + pickI c 5) = (n : Int) := by
  have := pickI_b c 5 (by decide)
  refine ⟨(2 + pickI c 5).toNat, by omega, by omega, by omega, ?_⟩
  unfold wrap64
  omega

set_option maxRecDepth 100000 in
set_option maxHeartbeats 8000000 in
theorem Bounded_any (nodes : Int) (hn0 : -9223372036854775808 ≤ nodes ∧ nodes ≤ 9223372036854775807) (ao : Option Addr) (N c : Nat) (L : List Op) (hN : L.length = N) (w : World) (hL : HoldsC w ao (OpC L)) :
    Calls Tryz.prog 6 #[.int .i64 nodes, .slice ao N c] w fun e w' => e = .returned (.bool true) ∧ Below w.heap.size w w' := by
  obtain ⟨n, hn2, hn6, hpk, hpw⟩ := pick5 (c := nodes)
  have HP := hide (pick_any nodes 5 hn0.1 hn0.2 (by decide) (by decide) w)
  have HR := hide (row_any n ⟨by omega, hn6⟩ w)
  go_enter Tryz.func6, Tryz.ntmps6
  go_upto_region 2 with (go_at_call 9; refine HP.out.mono ?_; rintro e w2 ⟨rfl, hw2⟩; have hw3 := hw2.symm; subst hw3; clear hw2)
  clear HP hpk hpw
  go_upto_region 3 with (go_at_call 10; refine HR.out.mono ?_; rintro e w3 ⟨y, rfl, hq⟩)
  replace hq := hide hq
  have hb3 := hq.out.bl
  clear HR
  by_cases h4 : 4096 < N
  · have e1 : decide (4096 < (N : Int)) = true := decide_eq_true (by omega)
    clear hq hL
    go_wp2
    go_ret
    exact ⟨rfl, hb3⟩
  have e1 : decide (4096 < (N : Int)) = false := decide_eq_false (by omega)
  obtain ⟨G, hG⟩ : ∃ G, y.G = G := ⟨_, rfl⟩
  rw [hG]
  have hQ0 : Hid (∃ (c : Nat) (y : MG) (m : Msh), c ≤ 0 ∧ y.G = G ∧ SQ w n c y m w3) := ⟨0, y, _, Nat.le_refl _, hG, hq.out⟩
  clear hq hb3 hG
  go_wp2_with fail
  go_loopw [7] (fun i wr => ∃ (k : Nat), k ≤ N ∧ i = .int .i64 k ∧ Hid (∃ (c : Nat) (y : MG) (m : Msh), c ≤ k ∧ y.G = G ∧ SQ w n c y m wr)) (fun i _ => N - (intOf i).toNat)
  case atStart => exact ⟨0, Nat.zero_le _, rfl, hQ0⟩
  case round =>
    clear hQ0
    obtain ⟨k, hk, rfl, hq⟩ := hrel
    by_cases hlt : k < N
    · have hki : (k : Int) < (N : Int) := by omega
      obtain ⟨o, ho⟩ : ∃ o, L[k]? = some o := ⟨_, List.getElem?_eq_getElem (by omega)⟩
      have hLw : Hid (∀ W, Below w.heap.size w W → ∃ g f, ao = some ⟨g, f, none⟩ ∧ g < W.heap.size ∧ W.cell? ⟨g, f + k * 6, none⟩ = some (.int .i64 o.dow) ∧ W.cell? ⟨g, f + k * 6 + 1, none⟩ = some (.int .i64 o.a) ∧ W.cell? ⟨g, f + k * 6 + 2, none⟩ = some (.int .i64 o.b) ∧ W.cell? ⟨g, f + k * 6 + 3, none⟩ = some (.int .i64 o.n) ∧ W.cell? ⟨g, f + k * 6 + 4, none⟩ = some (.bool o.on) ∧ W.cell? ⟨g, f + k * 6 + 5, none⟩ = some (.string o.txt)) := hide fun W hb => OpC_at (hL.below hb) ho
      obtain ⟨c1, y, m, hck, hG, hs⟩ := hq.out
      obtain ⟨g, f, rfl, hgl, d0, d1, d2, d3, d4, d5⟩ := hLw.out wr hs.bl
      by_cases ht : 65536 < o.txt.size
      · have e2 : decide (65536 < (o.txt.size : Int)) = true := decide_eq_true (by omega)
        have hgo : Hid (∃ (k' : Nat), k' ≤ N ∧ (.int .i64 ((k : Int) + 1) : Value) = .int .i64 k' ∧ Hid (∃ (c : Nat) (y : MG) (m : Msh), c ≤ k' ∧ y.G = G ∧ SQ w n c y m wr)) := ⟨k + 1, by omega, by simp, c1, y, m, by omega, hG, hs⟩
        have hwk := hide (wrap1 (h := k) (by omega))
        clear hs hq hLw ho d0 d1 d2 d3 d4
        go_wp2
        go_roundw
        case rel => exact hgo.out
        case measure => exact meas_lt hlt
      · have e2 : decide (65536 < (o.txt.size : Int)) = false := decide_eq_false (by omega)
        have HD := hide (Q_Do hs (by omega) o fun _ => by omega)
        rw [hG] at HD
        obtain ⟨dow, a, b, num, on, txt⟩ := o
        unfold opV at HD
        dsimp only at d0 d1 d2 d3 d4 d5 e2 ht HD
        clear hs hq hG
        go_upto_if 36 with (fail)
        go_upto_region 42 with (go_at_call 11; refine HD.out.mono ?_; rintro e w4 ⟨v, Lv, y', rfl, hLv, hev, hG', hs⟩)
        have hair := hs.ok.air
        have HA := hide (M_Air hs.mm (by omega))
        rw [hG'] at HA
        have hs1 := hide hs
        obtain ⟨m1, hm1⟩ : ∃ m1, (m.step ⟨dow, a, b, num, on, txt⟩).1 = m1 := ⟨_, rfl⟩
        rw [hm1] at HA hair hs1
        clear hs hev hLv hm1 HD hLw ho d0 d1 d2 d3 d4 d5 e2 ht hgl hL
        go_upto_region 44 with (go_at_call 17; refine HA.out.mono ?_; rintro e w5 ⟨va, rfl, hra, hb5⟩)
        obtain ⟨aa, ca, rfl, _⟩ := row_form hra
        have e3 : decide (48 < (m1.air.length : Int)) = false := decide_eq_false (by omega)
        have hs3 : Hid (∃ (c : Nat) (y : MG) (m : Msh), c ≤ k + 1 ∧ y.G = G ∧ SQ w n c y m w5) := ⟨c1 + 1, y', _, by omega, hG', hs1.out.later hb5⟩
        clear hs1 HA hra hb5
        go_wp2_with fail
        go_simp
        go_wp2_with fail
        go_loopw [9] (fun i wr => ∃ (j : Nat), j ≤ n ∧ i = .int .i64 j ∧ Hid (∃ (c : Nat) (y : MG) (m : Msh), c ≤ k + 1 ∧ y.G = G ∧ SQ w n c y m wr)) (fun i _ => n - (intOf i).toNat)
        case atStart => exact ⟨0, Nat.zero_le _, rfl, hs3⟩
        case round =>
          clear hs3
          obtain ⟨j, hj, rfl, hq⟩ := hrel
          by_cases hjn : j < n
          · have hjni : (j : Int) < (n : Int) := by omega
            obtain ⟨c2, y2, m2, hc2, hG2, hs⟩ := hq.out
            obtain ⟨t1, t2, t3, t4, t5, t6⟩ := hs.tab hjn
            have HT := hide (M_Routes hs.mm j (by rw [hs.len]; exact hjn) t4)
            rw [hG2] at HT
            replace t1 := hide t1
            replace t2 := hide t2
            replace t5 := hide t5
            replace t6 := hide t6
            have hs1 := hide hs
            clear hs hq t4
            go_upto_region 55 with (go_at_call 12; refine HT.out.mono ?_; rintro e w6 ⟨vr, Lr, rfl, hLr, hls, hmp⟩)
            obtain ⟨y3, hG3, hs⟩ := hs1.out.asked hmp
            replace hG3 := hG3.trans hG2
            rw [← hLr] at t1 t2 t3
            rw [List.length_map] at t3
            obtain ⟨ar, cr, rfl, _⟩ := row_form hls.row
            have e4 : decide (8 < (Lr.length : Int)) = false := decide_eq_false (by omega)
            replace hs1 := hide hs
            clear hs HT hmp hG2
            obtain ⟨bs, hbs⟩ : ∃ b, wr.heap.size = b := ⟨_, rfl⟩
            rw [hbs] at hls
            clear hbs
            go_wp2_with fail
            go_simp
            go_wp2_with fail
            go_loopw [11] (fun i wr => ∃ (t : Nat), t ≤ Lr.length ∧ i = .int .i64 t ∧ LsR bs (.slice ar Lr.length cr) Lr wr ∧ Hid (SQ w n c2 y3 m2 wr)) (fun i _ => Lr.length - (intOf i).toNat)
            case atStart => exact ⟨0, Nat.zero_le _, rfl, hls, hs1⟩
            case round =>
              clear hls hs1
              obtain ⟨t, htl, rfl, hls, hs1⟩ := hrel
              by_cases htn : t < Lr.length
              · have hti : (t : Int) < (Lr.length : Int) := by omega
                have ht8 : t < 1000 := by omega
                have hj6 : j < 6 := by omega
                obtain ⟨gr', cr', he, _⟩ := row_shape' hls.row (by omega)
                cases he
                obtain ⟨dd, bv, ab, nb, cb, k0, k4, k6, h4', hb0, hdn, hpr⟩ := bd_line hls t1.out t2.out htn
                have hgo : Hid (∀ q W, wr.drewN q = W → ∃ (t' : Nat), t' ≤ Lr.length ∧ (.int .i64 ((t : Int) + 1) : Value) = .int .i64 t' ∧ LsR bs (.slice (some ⟨gr', 0, none⟩) Lr.length cr) Lr W ∧ Hid (SQ w n c2 y3 m2 W)) := hide fun q W hW => hW ▸ ⟨t + 1, by omega, by simp, hls.later (below_drewN (Below.refl _ _) q), hide (hs1.out.later (below_drewN (Below.refl _ _) q))⟩
                have hw := row_wrap hj6
                clear hls hs1 t1 t2 t5 t6 hn0 hN hn2 hn6 h4 e1 hk hlt hki hck hG' hair e3 hj hjn hjni hc2 t3 hLr hG3 e4 hj6
                by_cases ht0 : t = 0
                · obtain ⟨z1, z2⟩ := dec_zero ht0
                  clear hpr ht0
                  cases bv with
                  | true =>
                    clear hb0
                    go_wp2_with fail
                    go_simp
                    go_wp2_with fail
                    go_quiet (fail)
                    generalize hg : World.drewN _ _ = W3
                    have hgo3 := hide (hgo.out _ _ hg)
                    clear hg hgo k0 k4 k6 hw
                    go_wp2
                    go_roundw
                    case rel => exact hgo3.out
                    case measure => exact meas_lt htn
                  | false =>
                    obtain rfl := hb0 rfl
                    go_wp2_with fail
                    go_simp
                    go_wp2_with fail
                    go_quiet (fail)
                    generalize hg : World.drewN _ _ = W3
                    have hgo3 := hide (hgo.out _ _ hg)
                    clear hg hgo k0 k4 k6 hw
                    go_wp2
                    go_roundw
                    case rel => exact hgo3.out
                    case measure => exact meas_lt htn
                · obtain ⟨htp, hti0, hi0, hi1⟩ := nat_pred ht0 htn
                  obtain ⟨d, kd, kd', hdd⟩ := hpr htp
                  obtain ⟨z1, z2⟩ := dec_pos htp
                  clear hpr ht0
                  cases bv with
                  | true =>
                    clear hb0
                    go_wp2_with fail
                    go_simp
                    go_wp2_with fail
                    go_quiet (fail)
                    generalize hg : World.drewN _ _ = W3
                    have hgo3 := hide (hgo.out _ _ hg)
                    clear hg hgo k0 k4 k6 hw kd kd'
                    go_wp2
                    go_roundw
                    case rel => exact hgo3.out
                    case measure => exact meas_lt htn
                  | false =>
                    obtain rfl := hb0 rfl
                    go_wp2_with fail
                    go_simp
                    go_wp2_with fail
                    go_quiet (fail)
                    generalize hg : World.drewN _ _ = W3
                    have hgo3 := hide (hgo.out _ _ hg)
                    clear hg hgo k0 k4 k6 hw kd kd'
                    go_wp2
                    go_roundw
                    case rel => exact hgo3.out
                    case measure => exact meas_lt htn
              · obtain rfl : t = Lr.length := by omega
                have HRu := hide (M_Runs hs1.out.mm (j : Int))
                have HJ := hide (M_Journal hs1.out.mm j (by rw [hs1.out.len]; exact hjn) (by have := t5.out; omega))
                rw [hG3] at HRu HJ
                obtain ⟨rr, hrr⟩ : ∃ rr, m2.runs (j : Int) = rr := ⟨_, rfl⟩
                obtain ⟨jn, hjn'⟩ : ∃ jn, (m2.at' j).jrn.length = jn := ⟨_, rfl⟩
                have hfin : Hid (∀ W, Below wr.heap.size wr W → ∃ (j' : Nat), j' ≤ n ∧ (.int .i64 ((j : Int) + 1) : Value) = .int .i64 j' ∧ Hid (∃ (c : Nat) (y : MG) (m : Msh), c ≤ k + 1 ∧ y.G = G ∧ SQ w n c y m W)) := hide fun W hW => ⟨j + 1, by omega, by simp, c2, y3, m2, hc2, hG3, hs1.out.later hW⟩
                rw [hrr] at HRu t6
                rw [hjn'] at HJ t6
                clear hls hs1 t1 t2 t5 htl htn
                have hwj := hide (wrap1 (h := j) (by omega))
                clear hn0 hN hn2 hn6 h4 e1 hk hlt hki hck hG' hair e3 hj hjni hc2 t3 hLr hG3 e4 hrr hjn'
                cases rr with
                | false =>
                  clear t6
                  go_wp2_with fail
                  go_simp
                  go_wp2_with (first | (go_at_call 13; refine HRu.out.mono ?_; rintro e w7 ⟨rfl, hw7⟩; have hw8 := hw7.symm; subst hw8; clear hw7) | (go_at_call 18; refine HJ.out.mono ?_; rintro e w9 ⟨vj, rfl, hrj, hbj⟩; have hfn := hide (hfin.out w9 hbj); obtain ⟨aj, cj, rfl, _⟩ := row_form hrj; clear hrj hbj))
                  go_roundw
                  case rel => rw [hwj.out]; exact hfn.out
                  case measure => rw [hwj.out]; exact meas_lt hjn
                | true =>
                  obtain ⟨c0, hjc, hc0, hc24⟩ := t6.out rfl
                  obtain ⟨b1, b2, b3⟩ := jn_facts hjc hc0 hc24
                  clear t6 hjc hc0 hc24
                  go_wp2_with fail
                  go_simp
                  go_wp2_with (first | (go_at_call 13; refine HRu.out.mono ?_; rintro e w7 ⟨rfl, hw7⟩; have hw8 := hw7.symm; subst hw8; clear hw7) | (go_at_call 18; refine HJ.out.mono ?_; rintro e w9 ⟨vj, rfl, hrj, hbj⟩; have hfn := hide (hfin.out w9 hbj); obtain ⟨aj, cj, rfl, _⟩ := row_form hrj; clear hrj hbj))
                  go_roundw
                  case rel => rw [hwj.out]; exact hfn.out
                  case measure => rw [hwj.out]; exact meas_lt hjn
          · obtain rfl : j = n := by omega
            have hgo : Hid (∃ (k' : Nat), k' ≤ N ∧ (.int .i64 ((k : Int) + 1) : Value) = .int .i64 k' ∧ Hid (∃ (c : Nat) (y : MG) (m : Msh), c ≤ k' ∧ y.G = G ∧ SQ w j c y m wr)) := ⟨k + 1, by omega, by simp, hq.out⟩
            have hwk := hide (wrap1 (h := k) (by omega))
            clear hq hj
            clear hn0 hN hn2 hn6 h4 e1 hk hki hck hG' hair e3
            go_wp2
            go_roundw
            case rel => rw [hwk.out]; exact hgo.out
            case measure => rw [hwk.out]; exact meas_lt hlt
    · obtain rfl : k = N := by omega
      obtain ⟨c, y, m, _, _, hs⟩ := hq.out
      have hfin := hs.bl
      clear hs hq hL
      go_wp2
      go_ret
      exact ⟨rfl, hfin⟩
end Go.Proofs.YtakaadcpaeiccabGreat

namespace Go.Proofs.YtakaadcpaeiccabGreat
open Go.ChangeShapes Go.WideShapes Go.RowKit Go.Deep

end Go.Proofs.YtakaadcpaeiccabGreat

namespace Go.Proofs.YtakaadcpaeiccabGreat
open Go.ChangeShapes Go.WideShapes Go.ChangeAt Go.RowKit Go.Deep

/-! Scripts, as they are handed in. -/
theorem rcOp : Tryz.prog.cellsOf 28 = 6 := by kernel_rfl
theorem rcInt : Tryz.prog.cellsOf 3 = 1 := by kernel_rfl
theorem rcStr : Tryz.prog.cellsOf 9 = 1 := by kernel_rfl
theorem rcBool : Tryz.prog.cellsOf 4 = 1 := by kernel_rfl
/-- The numbers of a step are ints. -/
structure OpOk (o : Op) : Prop where
  dow : -9223372036854775808 ≤ o.dow ∧ o.dow ≤ 9223372036854775807
  a : -9223372036854775808 ≤ o.a ∧ o.a ≤ 9223372036854775807
  b : -9223372036854775808 ≤ o.b ∧ o.b ≤ 9223372036854775807
  n : -9223372036854775808 ≤ o.n ∧ o.n ≤ 9223372036854775807
set_option maxRecDepth 100000 in
theorem open_op {H : Type} {enc : TypeId × Value → H} {W : World} (n : Nat) (cs : List Value) (y : DataW H × List MemPlace) (h : DataW.trod enc Tryz.prog W 0 (fun _ => true) true n 28 cs = some y) (hl : cs.length = 6) :
    ∃ o : Op, cs = [.int .i64 o.dow, .int .i64 o.a, .int .i64 o.b, .int .i64 o.n, .bool o.on, .string o.txt] ∧ OpOk o := by
  obtain ⟨c0, c1, c2, c3, c4, c5, rfl⟩ : ∃ c0 c1 c2 c3 c4 c5, cs = [c0, c1, c2, c3, c4, c5] := by
    match cs, hl with
    | [c0, c1, c2, c3, c4, c5], _ => exact ⟨c0, c1, c2, c3, c4, c5, rfl⟩
  obtain ⟨xs, n, _, _, _, hlen, hget⟩ := DataW.trod_struct Tryz.underlying28 h
  match xs, hlen with
  | [x0, x1, x2, x3, x4, x5], _ =>
    have g0 : DataW.trod enc Tryz.prog W 0 (fun _ => true) true n 3 (([c0, c1, c2, c3, c4, c5].drop 0).take (Tryz.prog.cellsOf 3)) = some x0 := hget 0 _ rfl
    rw [rcInt] at g0
    have g1 : DataW.trod enc Tryz.prog W 0 (fun _ => true) true n 3 (([c0, c1, c2, c3, c4, c5].drop 1).take (Tryz.prog.cellsOf 3)) = some x1 := hget 1 _ rfl
    rw [rcInt] at g1
    have g2 : DataW.trod enc Tryz.prog W 0 (fun _ => true) true n 3 (([c0, c1, c2, c3, c4, c5].drop 2).take (Tryz.prog.cellsOf 3)) = some x2 := hget 2 _ rfl
    rw [rcInt] at g2
    have g3 : DataW.trod enc Tryz.prog W 0 (fun _ => true) true n 3 (([c0, c1, c2, c3, c4, c5].drop 3).take (Tryz.prog.cellsOf 3)) = some x3 := hget 3 _ rfl
    rw [rcInt] at g3
    have g4 : DataW.trod enc Tryz.prog W 0 (fun _ => true) true n 4 (([c0, c1, c2, c3, c4, c5].drop 4).take (Tryz.prog.cellsOf 4)) = some x4 := hget 4 _ rfl
    rw [rcBool] at g4
    have g5 : DataW.trod enc Tryz.prog W 0 (fun _ => true) true n 9 (([c0, c1, c2, c3, c4, c5].drop 5).take (Tryz.prog.cellsOf 9)) = some x5 := hget 5 _ rfl
    rw [rcStr] at g5
    clear hget
    obtain ⟨a0, e0, _, w0⟩ := DataW.trod_int Tryz.underlying3 g0
    obtain ⟨a1, e1, _, w1⟩ := DataW.trod_int Tryz.underlying3 g1
    obtain ⟨a2, e2, _, w2⟩ := DataW.trod_int Tryz.underlying3 g2
    obtain ⟨a3, e3, _, w3⟩ := DataW.trod_int Tryz.underlying3 g3
    obtain ⟨a4, e4, _⟩ := DataW.trod_bool Tryz.underlying4 g4
    obtain ⟨a5, e5, _, _⟩ := DataW.trod_string Tryz.underlying9 g5
    simp at e0 e1 e2 e3 e4 e5
    subst e0 e1 e2 e3 e4 e5
    exact ⟨⟨a0, a1, a2, a3, a4, a5⟩, rfl, ⟨bounds_i64 w0, bounds_i64 w1, bounds_i64 w2, bounds_i64 w3⟩⟩
theorem open_ops {H : Type} {enc : TypeId × Value → H} {W : World} {fuel : Nat} {c : Value} {x : DataW H × List MemPlace} (h : DataW.trod enc Tryz.prog W 0 (fun _ => true) true fuel 22 [c] = some x) :
    ∃ ao n cap L, c = .slice ao n cap ∧ L.length = n ∧ n ≤ maxLen ∧ HoldsC W ao (OpC L) ∧ ∀ o ∈ L, OpOk o :=
  open_rows Tryz.underlying22 rcOp (by decide) (fun o : Op => [.int .i64 o.dow, .int .i64 o.a, .int .i64 o.b, .int .i64 o.n, .bool o.on, .string o.txt]) _ (fun _ => rfl) open_op h
end Go.Proofs.YtakaadcpaeiccabGreat
