import Derived.Test.YtjkjepoeiabpiaaJ7
import Derived.Deep.RegionWith
import Derived.Deep.QuietTactic
import Derived.BigQuiet
namespace Go.Proofs.Ytjkjepoeiabpiaa
open Go.RowKit

theorem slice_to (g n c k : Nat) (hk : k ≤ c) (W : World) : (Instr.slice 27 (.slice (some ⟨g, 0, none⟩) n c) none (some (.int .i64 k)) none).run Try.prog W = .ok (.slice (some ⟨g, 0, none⟩) k c) W := by
  have ht : Try.prog.underlying 27 = some (.slice (Try.prog.elem 27)) := by simp [Program.elem, Try.underlying27]
  have hz : ∀ w, (Go.sizeOf (Try.prog.elem 27)).run Try.prog w = .ok 1 w := by
    intro w
    simp [go_sem, Program.elem, Try.underlying27]
  rw [run_slice_h W 27 _ _ _ ht .i64 _ (by omega) (by omega), hz]
  simp only [Result.andThen, sliced]
  rw [Nat.sub_zero, Nat.sub_zero, Int.toNat_natCast]
  split <;> simp [Addr.add]
theorem torn_byte {z p : Int} (hz : 0 ≤ z ∧ z ≤ 255) (hp : 0 ≤ p ∧ p < 255) : ∃ y, bits .xor .u8 z (IntKind.u8.wrap (IntKind.i64.wrap (1 + p))) = y ∧ (0 ≤ y ∧ y ≤ 255) ∧ y ≠ z := by
  obtain ⟨q, rfl⟩ := Int.eq_ofNat_of_zero_le hp.1
  obtain ⟨m, rfl⟩ := Int.eq_ofNat_of_zero_le hz.1
  have e : IntKind.u8.wrap (IntKind.i64.wrap (1 + (q : Int))) = ((1 + q : Nat) : Int) := by
    rw [IntWalk.i64_in _ (by omega), IntWalk.u8_in _ (by omega)]
    omega
  rw [e, u8_xor_nat m (1 + q) (by omega) (by omega)]
  have hlt := Crc.xor_byte (show m < 256 by omega) (show 1 + q < 256 by omega)
  refine ⟨_, rfl, by omega, fun h => ?_⟩
  have h' : m ^^^ (1 + q) = m ^^^ 0 := by rw [Nat.xor_zero]; omega
  have := Crc.xor_cancel_left h'
  omega

set_option maxRecDepth 100000 in
set_option maxHeartbeats 4000000 in
theorem Torn_short (ao : Option Addr) (n c : Nat) (L0 : List (Bool × Int × Int)) (hn : L0.length = n) (hn1 : n ≤ 200) (hb0 : RBd L0) (at' by' : Int) (a0 : -9223372036854775808 ≤ at') (a1 : at' ≤ 9223372036854775807) (b0 : -9223372036854775808 ≤ by') (b1 : by' ≤ 9223372036854775807) (w : World) (hL : HoldsC w ao (RC L0)) :
    Calls Try.prog 8 #[.slice ao n c, .int .i64 at', .int .i64 by'] w fun e w' => e = .returned (.bool true) ∧ Below w.heap.size w w' := by
  obtain ⟨i0, hi, hz0, hz1, hz2⟩ := info_parts info_rec
  obtain ⟨i1, ji, jz0, jz1, jz2⟩ := info_parts info_u8
  have e0 : decide (200 < (n : Int)) = false := decide_eq_false (by omega)
  have hW0 : Below w.heap.size w (w.alloc (recBox true 0 7)) := (Below.refl _ _).alloc (Nat.le_refl _) _
  have hsrc := (hL.below hW0).src Try.underlying42 (size := 3) (n := n) c (by rw [RC_length, hn]) (by decide) (RC_oneCell L0)
  have ho0 : (w.alloc (recBox true 0 7)).ownsRow w.heap.size 41 3 (.slice (some ⟨w.heap.size, 0, none⟩) 1 1) 1 (RC [(true, 0, 7)]) :=
    ⟨rfl, .inr ⟨w.heap.size, 1, _, rfl, Nat.le_refl _, heap_alloc_new w _, Nat.le_refl _, by decide, rfl, rfl⟩⟩
  dsimp only [recBox] at hW0 hsrc ho0
  go_enter Try.func8, Try.ntmps8
  go_wp2_with (at_builtin; refine wpList_append_own_src _ rfl _ _ 42 42 rfl w.heap.size 41 i0 (.agg #[.bool false, .int .u32 0, .int .u32 0]) 3 12 Try.underlying42 hi hz0 hz1 hz2 rfl (.slice (some ⟨w.heap.size, 0, none⟩) 1 1) 1 (RC [(true, 0, 7)]) rfl ho0 (by simp) _ n (RC L0) rfl hsrc ?c1 ?c2 ?c3 ?_)
  case c1 => unfold maxLen; omega
  case c2 => omega
  case c3 => simp
  intro v1 W1 ho1 hg1 hv1
  have hB1 : Below w.heap.size w W1 := hW0.grown hg1 (by simp) (fun k hk => by simp [Value.ownBlock] at hk; omega)
  have hb1 : RBd ((true, 0, 7) :: L0) := by
    intro x hx
    rcases List.mem_cons.1 hx with rfl | hx
    · simp
    · exact hb0 x hx
  rw [← RC_append, show ([(true, 0, 7)] ++ L0 : List (Bool × Int × Int)) = (true, 0, 7) :: L0 from rfl] at ho1
  have hn2 : Hid (((true, 0, 7) :: L0 : List (Bool × Int × Int)).length = n + 1) := by
    show _ = _
    rw [List.length_cons, hn]
  rw [Nat.add_comm] at ho1
  generalize ((true, 0, 7) :: L0 : List (Bool × Int × Int)) = L at ho1 hb1 hn2
  obtain ⟨g1, cap1, rfl, hgw⟩ := row_shape ho1 hv1
  have hL1 := HoldsC.ofRow ho1
  have hg1lt := ho1.lt g1 rfl
  clear hW0 hsrc ho0 hg1 hv1 hn hb0 hL
  go_wp2_with fail
  generalize hN1 : W1.heap.size = N1 at hg1lt hL1
  have hN1' := (show Hid _ from hN1)
  clear hN1
  have hBN : Below N1 W1 W1 := Below.refl _ _
  go_loopw [7, 8] (fun bv i wr => ∃ k : Nat, k ≤ n + 1 ∧ i = .int .i64 k ∧ wr.ownsRow N1 5 1 bv (13 * k) (U (flatR (L.take k))) ∧ Below N1 W1 wr ∧ N1 ≤ wr.heap.size) (fun _ i _ => n + 1 - (intOf i).toNat)
  case atStart => exact ⟨0, Nat.zero_le _, rfl, ⟨rfl, .inl ⟨rfl, rfl⟩⟩, hBN, Nat.le_of_eq hN1'.out.symm⟩
  case round =>
    clear hBN
    obtain ⟨k, hk, rfl, ho, hB, hNr⟩ := hrel
    by_cases hlt : k < n + 1
    · have hkL : k < L.length := by rw [hn2.out]; exact hlt
      obtain ⟨⟨o, a, s⟩, hx⟩ : ∃ x, L[k]? = some x := ⟨_, List.getElem?_eq_getElem hkL⟩
      have hbx := hb1 _ (List.mem_of_getElem? hx)
      dsimp only at hbx
      have hLr := hL1.below (W' := wr) (by rw [hN1'.out]; exact hB)
      have hg := RC_get L k
      rw [hx] at hg
      have c0 := hLr.one rfl hg.1
      have c1 := hLr.one rfl hg.2.1
      have c2 := hLr.one rfl hg.2.2
      simp only [Nat.zero_add] at c0 c1 c2
      have hst : Hid (flatR (L.take (k + 1)) = flatR (L.take k) ++ recB o a s) := by
        show _ = _
        rw [List.take_add_one, hx, flatR_append]
        rfl
      clear hg hLr hx
      go_wp2_with fail
      refine (WriteRecord_any o a s hbx.1.1 hbx.1.2 hbx.2.1 hbx.2.2 _).mono ?_
      rintro e W3 ⟨v3, rfl, hb3, hv3, ho3⟩
      have hoB := step_append_kept ho hb3
      have hB3 := hB.trans (hb3.mono hNr)
      have hN3 := Nat.le_trans hNr hb3.size
      obtain ⟨g3, cap3, rfl, hg3⟩ := row_shape ho3 hv3
      have hc3 : ∀ (j : Nat) (u : Value), (U (recB o a s))[j]? = some u → W3.cell? ((⟨g3, 0, none⟩ : Addr).add j) = some u := by
        intro j u hj
        obtain ⟨b', o', h1, _, h2⟩ := HoldsC.ofRow ho3 j u hj
        simp only [Option.some.injEq, Addr.mk.injEq, and_true] at h1
        obtain ⟨rfl, rfl⟩ := h1
        have hadd : (⟨g3, 0, none⟩ : Addr).add j = ⟨g3, 0 + j, none⟩ := by unfold Addr.add; split <;> simp_all
        rw [hadd]
        exact h2
      have h1c : ∀ u ∈ U (recB o a s), u.oneCell' = true := by
        intro u hu
        simp only [U, List.mem_map] at hu
        obtain ⟨y, _, rfl⟩ := hu
        rfl
      have hlt3 := hoB.lt
      clear ho hB hb3 ho3 c0 c1 c2
      go_wp2_with (at_builtin; refine wpList_append_own _ rfl _ _ 27 rfl N1 5 i1 (.int .u8 0) 1 1 Try.underlying27 ji jz0 jz1 jz2 rfl (by decide) u7 (13 * k) (U (flatR (L.take k))) rfl hoB ⟨g3, 0, none⟩ 13 cap3 (U (recB o a s)) rfl rfl hc3 h1c ?c1 ?c2 ?c3 ?_)
      case c1 => unfold maxLen; omega
      case c2 => omega
      case c3 => exact hN3
      intro v4 W4 ho4 hg4 _
      have hB4 := hB3.grown hg4 hN3 (fun k hk => (hlt3 k hk).1)
      have hN4 := Nat.le_trans hN3 hg4.size
      rw [U_append] at ho4
      clear hoB hB3 hN3 hc3 h1c hlt3 hg4
      go_wp2
      go_roundw
      case rel =>
        refine ⟨k + 1, by omega, by go_num, ?_, hB4, hN4⟩
        rw [hst.out]
        exact ho4
      case measure => simp [intOf]; omega
    · obtain rfl : k = n + 1 := by omega
      have hxs : flatR (L.take (n + 1)) = flatR L := by rw [List.take_of_length_le (by rw [hn2.out]; omega)]
      rw [hxs] at ho
      have hbx := flatR_b hb1
      have hxl := flatR_length L
      rw [hn2.out] at hxl
      have hjb : Hid (jl (flatR L) = L.map norm) := jl_all L
      have hjc : ∀ K, K < 13 * (n + 1) → jl ((flatR L).take K) = (L.take (K / 13)).map norm := fun K hK => jl_cut L K (by rw [hn2.out]; exact hK)
      have hjt : ∀ K (y z : Int), K < 13 * (n + 1) → (flatR L)[K]? = some z → (0 ≤ y ∧ y ≤ 255) → y ≠ z → jl ((flatR L).set K y) = (L.take (K / 13)).map norm := fun K y z hK hz hy hne => jl_torn hb1 (by rw [hn2.out]; exact hK) hz hy hne
      have hMn : 13 * (n + 1) ≤ 2613 := by omega
      have hM0 : 0 < 13 * (n + 1) := by omega
      generalize flatR L = xs at ho hbx hxl hjb hjc hjt
      have hM := (show Hid _ from hxl)
      rw [← hxl] at ho hMn hM0 hjc hjt
      obtain ⟨g7, cap7, rfl, hg7⟩ := row_shape ho (by
        rintro rfl
        rcases ho.2 with ⟨_, h0⟩ | ⟨_, _, _, h0, _⟩
        · omega
        · cases h0)
      have hr2 := rest_row ho hbx
      clear hxs hk hlt hi hz0 hz1 hz2 hxl
      have hjc' := (show Hid _ from hjc)
      have hjt' := (show Hid _ from hjt)
      clear hjc hjt
      go_wp2_with fail
      refine (pick_any at' xs.length a0 a1 (by omega) (by omega) _).mono ?_
      rintro e W3 ⟨rfl, rfl⟩
      obtain ⟨p0, p1⟩ := pickI_b at' xs.length (by omega)
      generalize pickI at' xs.length = kI at p0 p1 ⊢
      obtain ⟨K, rfl⟩ := Int.eq_ofNat_of_zero_le p0
      have hK : K < xs.length := by omega
      clear p0 p1
      have hwa : Below W3.heap.size W3 (W3.alloc (.cells #[] 5)) := (Below.refl _ _).alloc (Nat.le_refl _) _
      have hsrc := src_rest (hr2.kept hwa)
      have hoc : (W3.alloc (.cells #[] 5)).ownsRow W3.heap.size 5 1 (.slice (some ⟨W3.heap.size, 0, none⟩) 0 0) 0 [] :=
        World.ownsRow_made (base := W3.heap.size) (e := 5) (size := 1) W3 #[] 0 (by simp) (by unfold maxLen; omega) rfl
      go_wp2_with (at_builtin; refine wpList_append_own_src _ rfl _ _ 27 27 rfl W3.heap.size 5 i1 (.int .u8 0) 1 1 Try.underlying27 ji jz0 jz1 jz2 rfl (.slice (some ⟨W3.heap.size, 0, none⟩) 0 0) 0 [] rfl hoc (by simp) _ xs.length (U xs) rfl hsrc ?c1 ?c2 ?c3 ?_)
      case c1 => unfold maxLen; omega
      case c2 => omega
      case c3 => simp
      intro v5 W5 ho5 hg5 hv5
      have hB5 : Below W3.heap.size W3 W5 := hwa.grown hg5 (by simp) (fun k hk => by simp [Value.ownBlock] at hk; omega)
      obtain ⟨g5, cap5, rfl, hg5w⟩ := row_shape ho5 hv5
      obtain ⟨z, hz⟩ : ∃ z, xs[K]? = some z := ⟨_, List.getElem?_eq_getElem hK⟩
      have hzb := hbx z (List.mem_of_getElem? hz)
      have hcz : W5.cell? ⟨g5, K, none⟩ = some (.int .u8 z) := by
        have := (HoldsC.ofRow ho5).one rfl (j := K) (u := .int .u8 z) (by simp [U, hz])
        rwa [Nat.zero_add] at this
      have hfz := ho5.frozenAt K
      have hKi : (K : Int) < (xs.length : Int) := by omega
      have hK0 : (0 : Int) ≤ (K : Int) := by omega
      clear hwa hsrc hoc hg5 hv5
      obtain ⟨y, hyE, hyb, hyz⟩ : ∃ y, bits .xor .u8 z (IntKind.u8.wrap (IntKind.i64.wrap (1 + pickI by' 255))) = y ∧ (0 ≤ y ∧ y ≤ 255) ∧ y ≠ z := torn_byte hzb (pickI_b by' 255 (by omega))
      have hyz' := (show Hid _ from hyz)
      clear hyz
      go_wp2_with fail
      go_region_with ((go_at_call 32; refine (pick_any by' 255 b0 b1 (by omega) (by omega) _).mono ?_; rintro e w6 ⟨rfl, rfl⟩))
      all_goals
        have hj1 := hjt'.out K y z hK hz hyb hyz'.out
        have hj1' := (show Hid _ from hj1)
        have ho6 := (ho5.stored K (.int .u8 y)).1.drew
        rw [← U_set] at ho6
        have hB6 : Below W3.heap.size W3 (W5.setCell ⟨g5, K, none⟩ (.int .u8 y)).drew := (hB5.setCell (p := ⟨g5, K, none⟩) hg5w _).drew
        have hr6 : RestV (W5.setCell ⟨g5, K, none⟩ (.int .u8 y)).drew (.slice (some ⟨g5, 0, none⟩) xs.length cap5) (xs.set K y) := by
          refine rest_row (base := W3.heap.size) (by rw [List.length_set]; exact ho6) ?_
          intro u hu
          rcases List.mem_or_eq_of_mem_set hu with hu | rfl
          · exact hbx u hu
          · exact hyb
        clear hyE hj1 hcz hfz ho5 hB5 ho6
        generalize World.drew _ = W6 at hB6 hr6 ⊢
        have hKc : K ≤ cap7 := by
          rcases hr2.2 with ⟨h, _⟩ | ⟨_, _, _, h, h', _⟩
          · cases h
          · cases h; omega
        have hlq : ((L.take (K / 13)).map norm).length = K / 13 := by
          rw [List.length_map, List.length_take, hn2.out, Nat.min_eq_left]
          have := hM.out
          omega
        have hgq : ∀ j, ((L.take (K / 13)).map norm)[j]? = if j < K / 13 then (L[j]?).map norm else none := by
          intro j
          rw [List.getElem?_map, List.getElem?_take]
          split <;> rfl
        have hjc := (show Hid _ from hjc'.out K hK)
        have hq1 : (K : Int) / 13 = ((K / 13 : Nat) : Int) := by omega
        have hqn : K / 13 ≤ n := by
          have := hM.out
          omega
        generalize (L.take (K / 13)).map norm = Lq at hlq hgq hjc hj1'
        generalize K / 13 = Q at hlq hgq hq1 hqn
        go_wp2_with fail
        refine (ReadJournal_any _ (xs.set K y) (by rw [List.length_set]; omega) _ hr6).mono ?_
        rintro e W7 ⟨v7, rfl, hb7, ho7⟩
        rw [hj1'.out, hlq] at ho7 ⊢
        obtain ⟨a7, c7, rfl, hm7⟩ := row_form ho7
        have hB7 := hB6.trans (hb7.mono hB6.size)
        have hr7 := rest_cut (n := K) (hr2.kept hB7) (by omega)
        have hsl := fun W => slice_to g7 xs.length cap7 K hKc W
        clear ho7 hb7 hB6 hr6
        go_wp2_with fail
        refine (ReadJournal_any _ (xs.take K) (by rw [List.length_take]; omega) _ hr7).mono ?_
        rintro e W8 ⟨v8, rfl, hb8, ho8⟩
        rw [hjc.out, hlq] at ho8 ⊢
        obtain ⟨a8, c8, rfl, hm8⟩ := row_form ho8
        have hm7' := hm7.below hb8
        have hB8 := hB7.trans (hb8.mono hB7.size)
        have hr8 := hr2.kept hB8
        clear ho8 hb8 hB7 hr7 hm7 hsl
        go_wp2_with fail
        refine (ReadJournal_any _ xs (by omega) _ hr8).mono ?_
        rintro e W9 ⟨v9, rfl, hb9, ho9⟩
        have hlb : (L.map norm).length = n + 1 := by rw [List.length_map, hn2.out]
        rw [hjb.out, hlb] at ho9 ⊢
        obtain ⟨a9, c9, rfl, hm9⟩ := row_form ho9
        have hm7'' := hm7'.below hb9
        have hm8' := hm8.below hb9
        have hB9 := hB8.trans (hb9.mono hB8.size)
        clear ho9 hb9 hB8 hr8 hm7' hm8 hlb
        have hM1 : (13 : Int) * ((n : Int) + 1) ≤ (xs.length : Int) := by have := hM.out; omega
        have hM2 : (xs.length : Int) ≤ 13 * ((n : Int) + 1) := by have := hM.out; omega
        have hBW : Below N1 W1 W9 := hB.trans (hB9.mono hNr)
        have hL9 := hL1.below (W' := W9) (by rw [hN1'.out]; exact hBW)
        have hB19 := hB1.trans (hBW.mono (by have := hB1.size; have := hN1'.out; omega))
        clear hr2 ho hB hB9 hBW hL1 ho1 hj1' hjc hjb hjc' hjt' hz hyb hyz' hbx
        go_wp2_with fail
        go_loopw [18] (fun i wx => ∃ k : Nat, k ≤ n + 1 ∧ i = .int .i64 k ∧ Below W9.heap.size W9 wx) (fun i _ => n + 1 - (intOf i).toNat)
        case atStart => exact ⟨0, Nat.zero_le _, rfl, Below.refl _ _⟩
        case round =>
          obtain ⟨k, hk, rfl, hBx⟩ := hrel
          by_cases hlt : k < n + 1
          · have hkL : k < L.length := by rw [hn2.out]; exact hlt
            obtain ⟨⟨o, a, s⟩, hx⟩ : ∃ x, L[k]? = some x := ⟨_, List.getElem?_eq_getElem hkL⟩
            have hbx := hb1 _ (List.mem_of_getElem? hx)
            dsimp only at hbx
            have hg := RC_get L k
            rw [hx] at hg
            have hLx := hL9.below hBx
            have c0 := hLx.one rfl hg.1
            have c1 := hLx.one rfl hg.2.1
            have c2 := hLx.one rfl hg.2.2
            simp only [Nat.zero_add] at c0 c1 c2
            have hg9 := RC_get (L.map norm) k
            rw [List.getElem?_map, hx] at hg9
            have hm9x := hm9.below hBx
            obtain ⟨b9, o9, rfl, _, _⟩ := hm9x _ _ hg9.1
            have d0 := hm9x.one rfl hg9.1
            have d1 := hm9x.one rfl hg9.2.1
            have d2 := hm9x.one rfl hg9.2.2
            have hg7' := RC_get Lq k
            rw [hgq, hx] at hg7'
            have hm7x := hm7''.below hBx
            have hm8x := hm8'.below hBx
            clear hg hLx d0 d1 d2
            cases o
            · have hN := RBk.new false a s wr
              have hby : Below wr.heap.size wr (wr.alloc (recBox false a s)) := (Below.refl _ _).alloc (Nat.le_refl _) _
              have hBy := hBx.trans (hby.mono hBx.size)
              have hm9y := hm9x.below hby
              have d0 := hm9y.one rfl hg9.1
              have d1 := hm9y.one rfl hg9.2.1
              have d2 := hm9y.one rfl hg9.2.2
              dsimp only [norm, Option.map_some] at d0 d1 d2
              simp only [Bool.false_eq_true, if_false] at d0 d1 d2
              rw [← Nat.add_assoc] at d1 d2
              by_cases hkQ : k < Q
              · rw [if_pos hkQ] at hg7'
                obtain ⟨b7, o7, rfl, _, _⟩ := hm7x _ _ hg7'.1
                obtain ⟨b8, o8, rfl, _, _⟩ := hm8x _ _ hg7'.1
                have hm7y := hm7x.below hby
                have hm8y := hm8x.below hby
                have e0' := hm7y.one rfl hg7'.1
                have e1' := hm7y.one rfl hg7'.2.1
                have e2' := hm7y.one rfl hg7'.2.2
                have f0' := hm8y.one rfl hg7'.1
                have f1' := hm8y.one rfl hg7'.2.1
                have f2' := hm8y.one rfl hg7'.2.2
                dsimp only [norm, Option.map_some] at e0' e1' e2' f0' f1' f2'
                simp only [Bool.false_eq_true, if_false] at e0' e1' e2' f0' f1' f2'
                rw [← Nat.add_assoc] at e1' e2' f1' f2'
                have hkQ' : decide ((k : Int) < (Q : Int)) = true := decide_eq_true (by omega)
                have hkQi : (k : Int) < (Q : Int) := by omega
                dsimp only [recBox] at hN hBy d0 d1 d2 e0' e1' e2' f0' f1' f2'
                clear hm7x hm8x hm7'' hm8' hm9 hm9x hm9y hm7y hm8y hg7' hg9 hby
                go_wp2_with fail
                clear c0 c1 c2
                obtain ⟨n0, n1, n2⟩ := hN.cell
                generalize World.alloc _ _ = W10 at n0 n1 n2 hBy d0 d1 d2 e0' e1' e2' f0' f1' f2' ⊢
                generalize wr.heap.size = R10 at n0 n1 n2 ⊢
                go_quiet (fail)
                go_wp2
                go_roundw
                case rel => exact ⟨k + 1, by omega, by go_num, below_drewN hBy _⟩
                case measure => simp [intOf]; omega
              · have hkQ' : decide ((k : Int) < (Q : Int)) = false := decide_eq_false (by omega)
                dsimp only [recBox] at hN hBy d0 d1 d2
                clear hm7x hm8x hm7'' hm8' hm9 hm9x hm9y hg7' hg9 hby
                go_wp2_with fail
                clear c0 c1 c2
                obtain ⟨n0, n1, n2⟩ := hN.cell
                generalize World.alloc _ _ = W10 at n0 n1 n2 hBy d0 d1 d2 ⊢
                generalize wr.heap.size = R10 at n0 n1 n2 ⊢
                go_quiet (fail)
                go_wp2
                go_roundw
                case rel => exact ⟨k + 1, by omega, by go_num, below_drewN hBy _⟩
                case measure => simp [intOf]; omega
            · have hN := RBk.new true 0 s wr
              have hby : Below wr.heap.size wr (wr.alloc (recBox true 0 s)) := (Below.refl _ _).alloc (Nat.le_refl _) _
              have hBy := hBx.trans (hby.mono hBx.size)
              have hm9y := hm9x.below hby
              have d0 := hm9y.one rfl hg9.1
              have d1 := hm9y.one rfl hg9.2.1
              have d2 := hm9y.one rfl hg9.2.2
              dsimp only [norm, Option.map_some] at d0 d1 d2
              simp only [if_true] at d0 d1 d2
              rw [← Nat.add_assoc] at d1 d2
              by_cases hkQ : k < Q
              · rw [if_pos hkQ] at hg7'
                obtain ⟨b7, o7, rfl, _, _⟩ := hm7x _ _ hg7'.1
                obtain ⟨b8, o8, rfl, _, _⟩ := hm8x _ _ hg7'.1
                have hm7y := hm7x.below hby
                have hm8y := hm8x.below hby
                have e0' := hm7y.one rfl hg7'.1
                have e1' := hm7y.one rfl hg7'.2.1
                have e2' := hm7y.one rfl hg7'.2.2
                have f0' := hm8y.one rfl hg7'.1
                have f1' := hm8y.one rfl hg7'.2.1
                have f2' := hm8y.one rfl hg7'.2.2
                dsimp only [norm, Option.map_some] at e0' e1' e2' f0' f1' f2'
                simp only [if_true] at e0' e1' e2' f0' f1' f2'
                rw [← Nat.add_assoc] at e1' e2' f1' f2'
                have hkQ' : decide ((k : Int) < (Q : Int)) = true := decide_eq_true (by omega)
                have hkQi : (k : Int) < (Q : Int) := by omega
                dsimp only [recBox] at hN hBy d0 d1 d2 e0' e1' e2' f0' f1' f2'
                clear hm7x hm8x hm7'' hm8' hm9 hm9x hm9y hm7y hm8y hg7' hg9 hby
                go_wp2_with fail
                clear c0 c1 c2
                obtain ⟨n0, n1, n2⟩ := hN.cell
                generalize World.alloc _ _ = W10 at n0 n1 n2 hBy d0 d1 d2 e0' e1' e2' f0' f1' f2' ⊢
                generalize wr.heap.size = R10 at n0 n1 n2 ⊢
                go_quiet (fail)
                go_wp2
                go_roundw
                case rel => exact ⟨k + 1, by omega, by go_num, below_drewN hBy _⟩
                case measure => simp [intOf]; omega
              · have hkQ' : decide ((k : Int) < (Q : Int)) = false := decide_eq_false (by omega)
                dsimp only [recBox] at hN hBy d0 d1 d2
                clear hm7x hm8x hm7'' hm8' hm9 hm9x hm9y hg7' hg9 hby
                go_wp2_with fail
                clear c0 c1 c2
                obtain ⟨n0, n1, n2⟩ := hN.cell
                generalize World.alloc _ _ = W10 at n0 n1 n2 hBy d0 d1 d2 ⊢
                generalize wr.heap.size = R10 at n0 n1 n2 ⊢
                go_quiet (fail)
                go_wp2
                go_roundw
                case rel => exact ⟨k + 1, by omega, by go_num, below_drewN hBy _⟩
                case measure => simp [intOf]; omega
          · obtain rfl : k = n + 1 := by omega
            go_wp2
            go_ret
            exact ⟨rfl, hB19.trans (hBx.mono hB19.size)⟩
end Go.Proofs.Ytjkjepoeiabpiaa
