import Derived.Test.YtpdjhcfkhblioaaGG
import Derived.Deep.QuietTactic
import Derived.BigQuiet
import Derived.Test.YtpdjhcfkhblioaaH3
import Derived.Test.YtpdjhcfkhblioaaGH
import Derived.Deep.CutRange
import Derived.Deep.RegionLaw
namespace Go.Proofs.Ytpdjhcfkhblioaa
open Go.RowKit

set_option maxRecDepth 100000 in
set_option maxHeartbeats 2000000 in
theorem numbers_same (ao bo : Option Addr) (n c1 c2 : Nat) (L : List Int) (hL : L.length = n) (hn : n ≤ 1000000) (w : World) (hA : HoldsC w ao (L.map encU)) (hB : HoldsC w bo (L.map encU)) :
    Calls Try.prog 84 #[.slice ao n c1, .slice bo n c2] w fun e w' => e = .returned (.bool true) ∧ Below w.heap.size w w' := by
  go_enter Try.func84, Try.ntmps84
  go_wp2_with fail
  go_loopw [5] (fun i wr => ∃ k : Nat, k ≤ n ∧ i = .int .i64 k ∧ Below w.heap.size w wr) (fun i _ => n - (intOf i).toNat)
  case atStart => exact ⟨0, Nat.zero_le _, rfl, Below.refl _ _⟩
  case round =>
    obtain ⟨k, hk, rfl, hb⟩ := hrel
    by_cases hlt : k < n
    · have hki : (k : Int) < (n : Int) := by omega
      obtain ⟨x, hx⟩ : ∃ x, L[k]? = some x := ⟨_, List.getElem?_eq_getElem (by omega)⟩
      have hat : (L.map encU)[k]? = some (encU x) := by rw [List.getElem?_map, hx]; rfl
      have hA' := hA.below hb
      have hB' := hB.below hb
      obtain ⟨b1, o1, rfl, _, d0⟩ := hA' k _ hat
      obtain ⟨b2, o2, rfl, _, e0⟩ := hB' k _ hat
      clear hat hA' hB' hx
      go_wp2_with fail
      go_quiet (fail)
      go_wp2
      go_roundw
      case rel => exact ⟨k + 1, by omega, by go_num, below_drewN hb _⟩
      case measure => simp [intOf] <;> omega
    · obtain rfl : k = n := by omega
      go_wp2
      go_ret
      exact ⟨rfl, hb⟩

set_option maxRecDepth 100000 in
set_option maxHeartbeats 2000000 in
theorem lost_same (ao bo : Option Addr) (n c1 c2 : Nat) (L : List (Int × Int)) (hL : L.length = n) (hn : n ≤ 1000000) (w : World) (hA : HoldsC w ao (LsC L)) (hB : HoldsC w bo (LsC L)) :
    Calls Try.prog 13 #[.slice ao n c1, .slice bo n c2] w fun e w' => e = .returned (.bool true) ∧ Below w.heap.size w w' := by
  go_enter Try.func13, Try.ntmps13
  go_wp2_with fail
  go_loopw [5] (fun i wr => ∃ k : Nat, k ≤ n ∧ i = .int .i64 k ∧ Below w.heap.size w wr) (fun i _ => n - (intOf i).toNat)
  case atStart => exact ⟨0, Nat.zero_le _, rfl, Below.refl _ _⟩
  case round =>
    obtain ⟨k, hk, rfl, hb⟩ := hrel
    by_cases hlt : k < n
    · have hki : (k : Int) < (n : Int) := by omega
      obtain ⟨x, hx⟩ : ∃ x, L[k]? = some x := ⟨_, List.getElem?_eq_getElem (by omega)⟩
      have hat : ∀ i z, i < 2 → ([.int .u32 x.1, .int .u32 x.2] : List Value)[i]? = some z → (LsC L)[k * 2 + i]? = some z := fun i z hi hz => (flat_at (fun x : Int × Int => ([Value.int .u32 x.1, Value.int .u32 x.2] : List Value)) 2 (by decide) (fun _ => rfl) L k i hi hx).trans hz
      have hA' := hA.below hb
      have hB' := hB.below hb
      obtain ⟨b1, o1, rfl, hj1⟩ := hA' (k * 2 + 0) _ (hat 0 _ (by decide) rfl)
      obtain ⟨b2, o2, rfl, hj2⟩ := hB' (k * 2 + 0) _ (hat 0 _ (by decide) rfl)
      have d0 := hA'.one rfl (hat 0 _ (by decide) rfl)
      have d1 := hA'.one rfl (hat 1 _ (by decide) rfl)
      have e0 := hB'.one rfl (hat 0 _ (by decide) rfl)
      have e1 := hB'.one rfl (hat 1 _ (by decide) rfl)
      clear hj1 hj2 hat hA' hB' hx
      obtain ⟨xa, xs⟩ := x
      dsimp only at d0 d1 e0 e1
      rw [Nat.add_zero] at d0 e0
      rw [← Nat.add_assoc] at d1 e1
      go_wp2_with fail
      go_quiet (fail)
      go_wp2
      go_roundw
      case rel => exact ⟨k + 1, by omega, by go_num, below_drewN hb _⟩
      case measure => simp [intOf] <;> omega
    · obtain rfl : k = n := by omega
      go_wp2
      go_ret
      exact ⟨rfl, hb⟩

set_option maxRecDepth 100000 in
set_option maxHeartbeats 2000000 in
theorem route_same (x : Rt) (v1 v2 : Value) (hbef : x.bef.length ≤ 4) (w : World) {b1 b2 : Nat} (h1 : w.ownsRow b1 23 1 v1 x.bef.length (x.bef.map encU)) (h2 : w.ownsRow b2 23 1 v2 x.bef.length (x.bef.map encU)) :
    Calls Try.prog 38 #[rtV x v1, rtV x v2] w fun e w' => e = .returned (.bool true) ∧ Below w.heap.size w w' := by
  obtain ⟨a1, c1, rfl, hA⟩ := row_form h1
  obtain ⟨a2, c2, rfl, hB⟩ := row_form h2
  have hb0 : Below w.heap.size w ((w.alloc (rtBox x (.slice a1 x.bef.length c1))).alloc (rtBox x (.slice a2 x.bef.length c2))) := ((Below.refl _ _).alloc (Nat.le_refl _) _).alloc (by simp) _
  have hX := (LnB.new x (.slice a1 x.bef.length c1) w).later ((Below.refl _ _).alloc (Nat.le_refl _) (rtBox x (.slice a2 x.bef.length c2)))
  have hY := LnB.new x (.slice a2 x.bef.length c2) (w.alloc (rtBox x (.slice a1 x.bef.length c1)))
  rw [World.size_alloc] at hY
  have HN := (show Hid _ from fun W hW => numbers_same a1 a2 x.bef.length c1 c2 x.bef rfl (by omega) W (hA.below hW) (hB.below hW))
  dsimp only [rtBox] at hb0 hX hY
  clear h1 h2 hA hB
  go_enter Try.func38, Try.ntmps38
  go_wp2_with fail
  generalize World.alloc (World.alloc _ _) _ = W1 at hb0 hX hY ⊢
  obtain ⟨p0, p1, p2, p3, p4, p5, p6⟩ := hX.cell
  obtain ⟨q0, q1, q2, q3, q4, q5, q6⟩ := hY.cell
  go_wp2_with fail
  refine Calls.mono (HN.out W1 hb0) ?_
  rintro e W2 ⟨rfl, hb2⟩
  have hX2 := hX.later hb2
  have hY2 := hY.later hb2
  have hbb := hb0.trans (hb2.mono hb0.size)
  clear HN hb0 hX hY hb2 p0 p1 p2 p3 p4 p5 p6 q0 q1 q2 q3 q4 q5 q6
  obtain ⟨p0, p1, p2, p3, p4, p5, p6⟩ := hX2.cell
  obtain ⟨q0, q1, q2, q3, q4, q5, q6⟩ := hY2.cell
  go_wp2
  go_ret
  exact ⟨rfl, hbb⟩
end Go.Proofs.Ytpdjhcfkhblioaa

namespace Go.Proofs.Ytpdjhcfkhblioaa
open Go.RowKit

theorem LsR.slice {base : Nat} {v : Value} {L : List (Rt × Value)} {W : World} (h : LsR base v L W) : ∃ ao c, v = .slice ao L.length c ∧ HoldsC W ao (RtC L) := row_form h.row
theorem own_set_any {W : World} {base e size n G j : Nat} {v u : Value} {xs : List Value} (h : W.ownsRow base e size v n xs) : ∃ ys, (W.setCell ⟨G, j, none⟩ u).ownsRow base e size v n ys := by
  by_cases hv : v.ownBlock = some G
  · rcases h.2 with ⟨rfl, _⟩ | ⟨g, cap, cur, rfl, _⟩
    · cases hv
    · obtain rfl : g = G := Option.some.inj hv
      exact ⟨_, (h.stored j u).1⟩
  · refine ⟨xs, row_at h fun k hk => ?_⟩
    exact Below.heap_setCell W ⟨G, j, none⟩ u k (fun e => hv (by rw [hk]; exact congrArg some e))

theorem below_trans1 {W W' : World} (h : Below W.drew.heap.size W.drew W') : Below W.heap.size W W' := (draws_below W 1).trans h

set_option maxRecDepth 100000 in
set_option maxHeartbeats 4000000 in
theorem lines_same {base : Nat} (v1 v2 : Value) (L1 L2 : List (Rt × Value)) (hm : L1.map (·.1) = L2.map (·.1)) (hok : ∀ p ∈ L1, p.1.bef.length ≤ 4) (hlen : L1.length ≤ 8) (w : World) (h1 : LsR base v1 L1 w) (h2 : LsR 0 v2 L2 w) (hbs : base ≤ w.heap.size) :
    Calls Try.prog 49 #[v1, v2] w fun e w' => e = .returned (.bool true) ∧ Below base w w' := by
  obtain ⟨a1, c1, rfl, _⟩ := h1.slice
  obtain ⟨a2, c2, rfl, _⟩ := h2.slice
  have hl2 : L2.length = L1.length := by
    have := congrArg List.length hm
    simpa using this.symm
  have H1 := (show Hid _ from h1)
  have H2 := (show Hid _ from h2)
  have hm' := (show Hid _ from hm)
  clear h1 h2 hm
  rw [hl2] at H2 ⊢
  generalize hn : L1.length = n at H1 H2 hlen hl2 ⊢
  have hn' := (show Hid _ from hn)
  have hl2' := (show Hid _ from hl2)
  clear hn hl2
  go_enter Try.func49, Try.ntmps49
  go_wp2_with fail
  go_loopw [5] (fun i wr => ∃ k : Nat, k ≤ n ∧ i = .int .i64 k ∧ Below w.heap.size w wr) (fun i _ => n - (intOf i).toNat)
  case atStart => exact ⟨0, Nat.zero_le _, rfl, Below.refl _ _⟩
  case round =>
    obtain ⟨k, hk, rfl, hb⟩ := hrel
    by_cases hlt : k < n
    · have hki : (k : Int) < (n : Int) := by omega
      obtain ⟨⟨x, u1⟩, hx1⟩ : ∃ x, L1[k]? = some x := ⟨_, List.getElem?_eq_getElem (by rw [hn'.out]; exact hlt)⟩
      obtain ⟨⟨x2, u2⟩, hx2⟩ : ∃ x, L2[k]? = some x := ⟨_, List.getElem?_eq_getElem (by rw [hl2'.out]; exact hlt)⟩
      obtain rfl : x = x2 := by
        have e1 := map_at hx1
        rw [hm'.out, map_at hx2] at e1
        exact (Option.some.inj e1).symm
      have R1 := (H1.out.later hb)
      have R2 := (H2.out.later hb)
      have b1 := R1.bef _ (List.mem_of_getElem? hx1)
      have b2 := R2.bef _ (List.mem_of_getElem? hx2)
      dsimp only at b1 b2
      have hx4 := hok _ (List.mem_of_getElem? hx1)
      dsimp only at hx4
      have HR := (show Hid _ from fun W hW => route_same x u1 u2 hx4 W (step_append_kept (W' := W) b1 hW) (step_append_kept b2 hW))
      obtain ⟨s1, d1, rfl, _⟩ := row_form b1
      obtain ⟨s2, d2, rfl, _⟩ := row_form b2
      obtain ⟨g1, cc1, hv1, _⟩ := row_shape' R1.row (by rw [hn'.out]; omega)
      obtain ⟨g2, cc2, hv2, _⟩ := row_shape' R2.row (by rw [hl2'.out]; omega)
      rw [hn'.out] at hv1
      rw [hl2'.out] at hv2
      cases hv1
      cases hv2
      have cA : ∀ i u, (rtC (x, .slice s1 x.bef.length d1))[i]? = some u → wr.cell? ⟨g1, k * 7 + i, none⟩ = some u := fun i u hu => by
        have hi : i < 7 := (List.getElem?_eq_some_iff.1 hu).1
        have hr := R1.row
        rw [hn'.out] at hr
        rw [hr.cellAt (k * 7 + i) (by omega), RtC_at hx1 hi, hu]
      have cB : ∀ i u, (rtC (x, .slice s2 x.bef.length d2))[i]? = some u → wr.cell? ⟨g2, k * 7 + i, none⟩ = some u := fun i u hu => by
        have hi : i < 7 := (List.getElem?_eq_some_iff.1 hu).1
        have hr := R2.row
        rw [hl2'.out] at hr
        rw [hr.cellAt (k * 7 + i) (by omega), RtC_at hx2 hi, hu]
      have p0 := cA 0 _ rfl
      have p1 := cA 1 _ rfl
      have p2 := cA 2 _ rfl
      have p3 := cA 3 _ rfl
      have p4 := cA 4 _ rfl
      have p5 := cA 5 _ rfl
      have p6 := cA 6 _ rfl
      have q0 := cB 0 _ rfl
      have q1 := cB 1 _ rfl
      have q2 := cB 2 _ rfl
      have q3 := cB 3 _ rfl
      have q4 := cB 4 _ rfl
      have q5 := cB 5 _ rfl
      have q6 := cB 6 _ rfl
      rw [Nat.add_zero] at p0 q0
      dsimp only at p0 p1 p2 p3 p4 p5 p6 q0 q1 q2 q3 q4 q5 q6
      clear cA cB b1 b2 R1 R2 hx1 hx2 hx4
      dsimp only [rtV] at HR
      go_wp2_with fail
      go_cut [6] from 20 to 28 (fun p W1 => p = .bool true ∧ Below w.heap.size w W1)
      case first =>
        go_region_law (go_simp; go_at_call 38; refine (HR.out _ (by first | exact Below.refl _ _ | exact draws_below wr 1 | exact draws_below wr _)).mono ?_; rintro e w5 ⟨rfl, hb5⟩)
        all_goals
          have hb6 := hb.trans ((below_trans1 hb5).mono hb.size)
          go_wp2_with fail
          go_meet
          exact ⟨rfl, hb6⟩
      case rest =>
        obtain ⟨rfl, hb6⟩ := hcut
        clear p0 p1 p2 p3 p4 p5 p6 q0 q1 q2 q3 q4 q5 q6 HR
        go_wp2
        go_roundw
        case rel => exact ⟨k + 1, by omega, by go_num, hb6⟩
        case measure => simp [intOf]; omega
    · have hkn : n ≤ k := by omega
      have hB0 : Below base w wr := hb.mono hbs
      have hs0 : base ≤ wr.heap.size := Nat.le_trans hbs hb.size
      have hrow0 : wr.ownsRow base 79 7 (.slice a1 n c1) n (RtC (overL (⟨77, 0, 0, 0, false, 0, []⟩, .slice none 0 0) 0 L1)) := by
        have := (H1.out.later hb).row
        rw [hn'.out] at this
        rw [overL_zero]
        exact this
      have hbef0 : ∀ p ∈ L1, ∃ ys, wr.ownsRow base 23 1 p.2 p.1.bef.length ys := fun p hp => ⟨_, (H1.out.later hb).bef p hp⟩
      clear H2 hm'
      clear hkn hb
      go_wp2_with fail
      go_loopw [7] (fun i W => ∃ k : Nat, k ≤ n ∧ i = .int .i64 k ∧ Below base w W ∧ base ≤ W.heap.size ∧ W.ownsRow base 79 7 (.slice a1 n c1) n (RtC (overL (⟨77, 0, 0, 0, false, 0, []⟩, .slice none 0 0) k L1)) ∧ ∀ p ∈ L1, ∃ ys, W.ownsRow base 23 1 p.2 p.1.bef.length ys) (fun i _ => n - (intOf i).toNat)
      case atStart => exact ⟨0, Nat.zero_le _, rfl, hB0, hs0, hrow0, hbef0⟩
      case round =>
        clear hrow0 hbef0 hB0 hs0
        obtain ⟨m, hm, rfl, hB, hs, hrow, hbef⟩ := hrel
        by_cases hlt2 : m < n
        · have hmi : (m : Int) < (n : Int) := by omega
          obtain ⟨⟨x, u⟩, hx⟩ : ∃ x, L1[m]? = some x := ⟨_, List.getElem?_eq_getElem (by rw [hn'.out]; exact hlt2)⟩
          have hxm := List.mem_of_getElem? hx
          have hx4 := hok _ hxm
          dsimp only at hx4
          obtain ⟨ys0, hy0⟩ := hbef _ hxm
          dsimp only at hy0
          obtain ⟨s1, d1, rfl, _⟩ := row_form hy0
          obtain ⟨g1, cc1, hv1, hg1⟩ := row_shape' hrow (by omega)
          cases hv1
          have hov : (overL (⟨77, 0, 0, 0, false, 0, []⟩, .slice none 0 0) m L1)[m]? = some (x, .slice s1 x.bef.length d1) := by rw [overL_get, hx]
          have hc := (show Hid _ from fun (W : World) (hr : W.ownsRow base 79 7 (.slice (some ⟨g1, 0, none⟩) n c1) n (RtC (overL (⟨77, 0, 0, 0, false, 0, []⟩, .slice none 0 0) m L1))) (i : Nat) (z : Value) (hz : (rtC (x, .slice s1 x.bef.length d1))[i]? = some z) => (show W.cell? ⟨g1, m * 7 + i, none⟩ = some z from by
            have hi : i < 7 := (List.getElem?_eq_some_iff.1 hz).1
            rw [hr.cellAt (m * 7 + i) (by omega), RtC_at hov hi, hz]))
          have hsto := (show Hid _ from fun (W : World) (hr : W.ownsRow base 79 7 (.slice (some ⟨g1, 0, none⟩) n c1) n (RtC (overL (⟨77, 0, 0, 0, false, 0, []⟩, .slice none 0 0) m L1))) => row_store hr hov ⟨77, 0, 0, 0, false, 0, []⟩ (.slice none 0 0))
          rw [overL_set _ hx] at hsto
          have hxm' := (show Hid _ from hxm)
          clear hy0 hov hx hxm
          go_wp2_with fail
          go_loopw [8] (fun j W => ∃ t : Nat, t ≤ x.bef.length ∧ j = .int .i64 t ∧ Below base w W ∧ base ≤ W.heap.size ∧ W.ownsRow base 79 7 (.slice (some ⟨g1, 0, none⟩) n c1) n (RtC (overL (⟨77, 0, 0, 0, false, 0, []⟩, .slice none 0 0) m L1)) ∧ ∀ p ∈ L1, ∃ ys, W.ownsRow base 23 1 p.2 p.1.bef.length ys) (fun j _ => x.bef.length - (intOf j).toNat)
          case atStart => exact ⟨0, Nat.zero_le _, rfl, hB, hs, hrow, hbef⟩
          case round =>
            clear hB hs hrow hbef
            obtain ⟨t, ht, rfl, hB, hs, hrow, hbef⟩ := hrel
            have c6 := hc.out _ hrow 6 _ rfl
            by_cases hlt3 : t < x.bef.length
            · have hti : (t : Int) < (x.bef.length : Int) := by omega
              obtain ⟨ys, hy⟩ := hbef _ hxm'.out
              dsimp only at hy
              obtain ⟨g3, d3, hv3, hg3⟩ := row_shape' hy (by omega)
              cases hv3
              have hyl : ys.length = x.bef.length * 1 := hy.1
              obtain ⟨y, hy1⟩ : ∃ y, ys[t]? = some y := ⟨_, List.getElem?_eq_getElem (by omega)⟩
              have cy := (hy.cellAt t (by omega)).trans hy1
              have fy := hy.frozenAt t
              have hB3 : Below base w (wr.setCell ⟨g3, t, none⟩ (.int .u32 99)) := hB.setCell (p := ⟨g3, t, none⟩) hg3 _
              have hs3 : base ≤ (wr.setCell ⟨g3, t, none⟩ (.int .u32 99)).heap.size := by simpa using hs
              have hrow3 := hrow.kept (hy.stored t (.int .u32 99)).2 (by
                rcases rows_apart hrow hy (by decide) with e | e
                · exact .inl e
                · exact .inr e)
              have hbef3 := (show Hid _ from fun p hp => (hbef p hp).elim fun zs hz => own_set_any (G := g3) (j := t) (u := .int .u32 99) hz)
              clear hB hs hrow hbef hy hyl hy1
              go_wp2
              go_roundw
              case rel => exact ⟨t + 1, by omega, by go_num, hB3, hs3, hrow3, hbef3.out⟩
              case measure => simp [intOf]; omega
            · have htl : ¬ t < x.bef.length := hlt3
              have c0 := hc.out _ hrow 0 _ rfl
              have c1' := hc.out _ hrow 1 _ rfl
              have c2' := hc.out _ hrow 2 _ rfl
              have c3 := hc.out _ hrow 3 _ rfl
              have c4 := hc.out _ hrow 4 _ rfl
              have c5 := hc.out _ hrow 5 _ rfl
              rw [Nat.add_zero] at c0
              have fr := fun i => hrow.frozenAt i
              have hst := hsto.out _ hrow
              have hB3 := hB.grown hst.2 hs (fun q e => by cases e; exact hg1)
              have hs3 := Nat.le_trans hs hst.2.size
              have hbef3 := (show Hid _ from fun p hp => (hbef p hp).elim fun zs hz => (⟨zs, hz.kept hst.2 (by
                rcases rows_apart hz hrow (by decide) with e | e
                · exact .inl e
                · exact .inr e)⟩ : ∃ ys, (storeAt wr g1 m ⟨77, 0, 0, 0, false, 0, []⟩ (.slice none 0 0)).ownsRow base 23 1 p.2 p.1.bef.length ys))
              have hst' := hst.1
              dsimp only [storeAt] at hB3 hs3 hbef3 hst'
              clear hst hB hs hrow hbef hc hsto
              go_wp2
              go_roundw
              case rel => exact ⟨m + 1, by omega, by go_num, hB3, hs3, hst', hbef3.out⟩
              case measure => simp [intOf]; omega
        · have hmn : n ≤ m := by omega
          clear hmn
          go_wp2
          go_ret
          exact ⟨rfl, hB⟩
end Go.Proofs.Ytpdjhcfkhblioaa
