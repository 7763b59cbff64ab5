import Derived.Test.YtakaadcpaeiccabGreatV4
import Derived.Test.YtakaadcpaeiccabGreatGA
namespace Go.Proofs.YtakaadcpaeiccabGreat
open Go.RowKit

set_option maxRecDepth 100000 in
set_option maxHeartbeats 2000000 in
theorem greatestOwn_any (ao : Option Addr) (n c : Nat) (L : List (Bool × Int × Int)) (hL : L.length = n) (hn : n ≤ 1000000) (_hbd : RBd L) (w : World) (hA : HoldsC w ao (RC L)) :
    Calls Tryz.prog 43 #[.slice ao n c] w fun e w' => e = .returned (.int .u32 ((owL L).getD 0)) ∧ Below w.heap.size w w' := by
  go_enter Tryz.func43, Tryz.ntmps43
  go_wp2_with fail
  go_loopw [3, 8] (fun q i wr => ∃ k : Nat, k ≤ n ∧ i = .int .i64 k ∧ q = .int .u32 ((owL (L.take k)).getD 0) ∧ Below w.heap.size w wr) (fun _ i _ => n - (intOf i).toNat)
  case atStart => exact ⟨0, Nat.zero_le _, rfl, rfl, Below.refl _ _⟩
  case round =>
    obtain ⟨k, hk, rfl, rfl, hb⟩ := hrel
    by_cases hlt : k < n
    · have hki : (k : Int) < (n : Int) := by omega
      obtain ⟨x, hx⟩ : ∃ x, L[k]? = some x := ⟨_, List.getElem?_eq_getElem (by omega)⟩
      have hat : ∀ i z, i < 3 → ([.bool x.1, .int .u32 x.2.1, .int .u32 x.2.2] : List Value)[i]? = some z → (RC L)[k * 3 + i]? = some z := fun i z hi hz => (flat_at (fun x : Bool × Int × Int => ([Value.bool x.1, Value.int .u32 x.2.1, Value.int .u32 x.2.2] : List Value)) 3 (by decide) (fun _ => rfl) L k i hi hx).trans hz
      have hA' := hA.below hb
      obtain ⟨b1, o1, rfl, hj1⟩ := hA' (k * 3 + 0) _ (hat 0 _ (by decide) rfl)
      have d0 := hA'.one rfl (hat 0 _ (by decide) rfl)
      have d1 := hA'.one rfl (hat 1 _ (by decide) rfl)
      have d2 := hA'.one rfl (hat 2 _ (by decide) rfl)
      have eO : Hid (owL (L.take (k + 1)) = stepO (owL (L.take k)) x) := by
        show _ = _
        rw [take_snocR hx, owL_snoc]
      obtain ⟨xo, xa, xs⟩ := x
      dsimp only at d0 d1 d2
      rw [Nat.add_zero] at d0
      rw [← Nat.add_assoc] at d1 d2
      have hb1 := hb.alloc hb.size (recBox xo xa xs)
      clear hj1 hat hA' hx hb
      generalize owL (L.take k) = cc at eO ⊢
      dsimp only [recBox] at hb1
      cases xo
      · have eO' : Hid ((owL (L.take (k + 1))).getD 0 = cc.getD 0) := by
          show _ = _
          rw [eO.out]; rfl
        clear eO
        generalize cc.getD 0 = t at eO' ⊢
        go_wp2
        go_roundw
        case rel => exact ⟨k + 1, by omega, by go_num, by rw [eO'.out], hb1⟩
        case measure => simp [intOf]; omega
      · have eO' : Hid ((owL (L.take (k + 1))).getD 0 = max (cc.getD 0) xs) := by
          show _ = _
          rw [eO.out]; rfl
        clear eO
        generalize cc.getD 0 = t at eO' ⊢
        go_wp2
        go_roundw
        case rel => exact ⟨k + 1, by omega, by go_num, by rw [eO'.out], hb1⟩
        case measure => simp [intOf]; omega
    · obtain rfl : k = n := by omega
      rw [List.take_of_length_le (by omega)]
      go_wp2
      go_ret
      exact ⟨rfl, hb⟩

set_option maxRecDepth 100000 in
set_option maxHeartbeats 4000000 in
theorem journalText_any (ao : Option Addr) (n c : Nat) (L : List (Bool × Int × Int)) (hL : L.length = n) (hn : n ≤ 100000) (hbd : RBd L) (w : World) (hA : HoldsC w ao (RC L)) :
    Calls Tryz.prog 73 #[.slice ao n c] w fun e w' => e = .returned (.string (strOfNums (flatR L))) ∧ Below w.heap.size w w' := by
  obtain ⟨i1, ji, jz0, jz1, jz2⟩ := info_parts info_u8
  have hb0 : Below w.heap.size w w := Below.refl _ _
  go_enter Tryz.func73, Tryz.ntmps73
  go_wp2_with fail
  go_loopw [3, 8] (fun bv i wr => ∃ k : Nat, k ≤ n ∧ i = .int .i64 k ∧ wr.ownsRow w.heap.size 5 1 bv (13 * k) (U (flatR (L.take k))) ∧ Below w.heap.size w wr) (fun _ i _ => n - (intOf i).toNat)
  case atStart => exact ⟨0, Nat.zero_le _, rfl, ⟨rfl, .inl ⟨rfl, rfl⟩⟩, hb0⟩
  case round =>
    clear hb0
    obtain ⟨k, hk, rfl, ho, hb⟩ := hrel
    by_cases hlt : k < n
    · have hki : (k : Int) < (n : Int) := by omega
      obtain ⟨⟨o, a, s⟩, hx⟩ : ∃ x, L[k]? = some x := ⟨_, List.getElem?_eq_getElem (by omega)⟩
      have hbx := hbd _ (List.mem_of_getElem? hx)
      dsimp only at hbx
      have hLr := hA.below hb
      have hat : ∀ i z, i < 3 → ([.bool o, .int .u32 a, .int .u32 s] : List Value)[i]? = some z → (RC L)[k * 3 + i]? = some z := fun i z hi hz => (flat_at (fun x : Bool × Int × Int => ([Value.bool x.1, Value.int .u32 x.2.1, Value.int .u32 x.2.2] : List Value)) 3 (by decide) (fun _ => rfl) L k i hi hx).trans hz
      obtain ⟨b1, o1, rfl, hj1⟩ := hLr (k * 3 + 0) _ (hat 0 _ (by decide) rfl)
      have c0 := hLr.one rfl (hat 0 _ (by decide) rfl)
      have c1 := hLr.one rfl (hat 1 _ (by decide) rfl)
      have c2 := hLr.one rfl (hat 2 _ (by decide) rfl)
      rw [Nat.add_zero] at c0
      rw [← Nat.add_assoc] at c1 c2
      have hst : Hid (flatR (L.take (k + 1)) = flatR (L.take k) ++ recB o a s) := by
        show _ = _
        rw [List.take_add_one, hx, flatR_append]
        rfl
      have hbA : Below wr.heap.size wr (wr.alloc (recBox o a s)) := (Below.refl _ _).alloc (Nat.le_refl _) _
      have hB1 := RBk.new o a s wr
      have ho1 := step_append_kept ho hbA
      have hb1 := hb.alloc hb.size (recBox o a s)
      dsimp only [recBox] at hB1 ho1 hb1
      clear hj1 hat hLr hx hb ho hbA
      go_upto_region 5 with (fail)
      generalize wr.heap.size = B1 at hB1 ⊢
      generalize World.alloc _ _ = W1 at hB1 ho1 hb1 ⊢
      obtain ⟨d0, d1, d2⟩ := hB1.cell
      clear c0 c1 c2
      go_wp2_with fail
      refine (WriteRecord_any o a s hbx.1.1 hbx.1.2 hbx.2.1 hbx.2.2 _).mono ?_
      rintro e W3 ⟨v3, rfl, hb3, hv3, ho3⟩
      have hoB := step_append_kept ho1 hb3
      have hB3 := hb1.trans (hb3.mono hb1.size)
      obtain ⟨g3, cap3, rfl, hg3⟩ := row_shape ho3 hv3
      have hc3 : ∀ (j : Nat) (u : Value), (U (recB o a s))[j]? = some u → W3.cell? ((⟨g3, 0, none⟩ : Addr).add j) = some u := by
        intro j u hj
        obtain ⟨b', o', h1, _, h2⟩ := HoldsC.ofRow ho3 j u hj
        simp only [Option.some.injEq, Addr.mk.injEq, and_true] at h1
        obtain ⟨rfl, rfl⟩ := h1
        have hadd : (⟨g3, 0, none⟩ : Addr).add j = ⟨g3, 0 + j, none⟩ := by unfold Addr.add; split <;> simp_all
        rw [hadd]
        exact h2
      have h1c : ∀ u ∈ U (recB o a s), u.oneCell' = true := by
        intro u hu
        simp only [U, List.mem_map] at hu
        obtain ⟨y, _, rfl⟩ := hu
        rfl
      have hlt3 := hoB.lt
      clear ho1 hb1 hb3 ho3 d0 d1 d2 hB1
      go_wp2_with (at_builtin; refine wpList_append_own _ rfl _ _ 58 rfl w.heap.size 5 i1 (.int .u8 0) 1 1 Tryz.underlying58 ji jz0 jz1 jz2 rfl (by decide) u3 (13 * k) (U (flatR (L.take k))) rfl hoB ⟨g3, 0, none⟩ 13 cap3 (U (recB o a s)) rfl rfl hc3 h1c ?c1 ?c2 ?c3 ?_)
      case c1 => unfold maxLen; omega
      case c2 => omega
      case c3 => exact hB3.size
      intro v4 W4 ho4 hg4 _
      have hB4 := hB3.grown hg4 hB3.size (fun k hk => (hlt3 k hk).1)
      rw [U_append] at ho4
      clear hoB hB3 hc3 h1c hlt3 hg4
      go_wp2
      go_roundw
      case rel =>
        refine ⟨k + 1, by omega, by go_num, ?_, hB4⟩
        rw [hst.out]
        exact ho4
      case measure => simp [intOf]; omega
    · obtain rfl : k = n := by omega
      rw [List.take_of_length_le (by omega)] at ho
      have hxl := flatR_length L
      rw [hL] at hxl
      rw [← hxl] at ho
      have hcv := conv_rest (rest_row ho (flatR_b hbd))
      clear ho hxl
      go_wp2
      go_ret
      exact ⟨rfl, hb⟩
end Go.Proofs.YtakaadcpaeiccabGreat
