/- Proved: for every string, meshlaw.Decodes returns true and leaves its argument as it was (the statement Rows.DecodesSaid, with no condition of ours). -/
import Derived.Test.YtmahaccaglaldaaRows
import Derived.Test.YtmahaccaglaldaaR5
import Derived.Test.YtmahaccaglaldaaG4
import Derived.Test.YtmahaccaglaldaaO1
import Derived.ProofKit
import Derived.ChangeMaps5
namespace Go.Proofs.Ytmahaccaglaldaa
open Go.ChangeShapes Go.WideShapes Go.ChangeAt Go.RowKit

theorem own : ownKnob Try.prog.godebug = none := by kernel_rfl
theorem laidOut : laidOutB Try.prog = true := by kernel_rfl

set_option maxRecDepth 100000 in
set_option maxHeartbeats 1000000 in
theorem Decodes_long (s : ByteArray) (h : 65536 < s.size) (w : World) :
    Calls Try.prog 4 #[.string s] w fun e w' => e = .returned (.bool true) ∧ Below w.heap.size w w' := by
  have e1 : decide (65536 < (s.size : Int)) = true := decide_eq_true (by omega)
  go_enter Try.func4, Try.ntmps4
  go_wp2
  go_ret
  exact ⟨rfl, Below.refl _ _⟩

theorem below_of_grown {A B W : World} {g N : Nat} (h : Below N A B) (hg : B.grownBy W (some g)) (hN : N ≤ g) (hB : N ≤ B.heap.size) : Below N A W :=
  h.grown hg hB (fun k hk => by cases hk; exact hN)

set_option maxRecDepth 100000 in
set_option maxHeartbeats 4000000 in
theorem Decodes_short (s : ByteArray) (hs : s.size ≤ 65536) (w : World) :
    Calls Try.prog 4 #[.string s] w fun e w' => e = .returned (.bool true) ∧ Below w.heap.size w w' := by
  have e0 : decide (65536 < (s.size : Int)) = false := decide_eq_false (by omega)
  have hcv := fun w => run_bytes_of_string (P := Try.prog) w 9 27 5 s Try.underlying9 Try.underlying27 Try.underlying5
  have hB1 : Below w.heap.size w (w.drew.alloc (.cells (bytesRow s (grownCap w s.size 0 5)) 5 ((bytesRow s (grownCap w s.size 0 5)).size, (bytesRow s (grownCap w s.size 0 5)).size + 1))) :=
    (Below.refl w.heap.size w).drew.alloc (Nat.le_refl _) _
  have hR1 := rest_new s hs w ((bytesRow s (grownCap w s.size 0 5)).size, (bytesRow s (grownCap w s.size 0 5)).size + 1)
  have hW1 : BRow w.heap.size s.size (w.drew.alloc (.cells (bytesRow s (grownCap w s.size 0 5)) 5 ((bytesRow s (grownCap w s.size 0 5)).size, (bytesRow s (grownCap w s.size 0 5)).size + 1))) :=
    ⟨_, _, _, heap_alloc_new w.drew _, by simp [bytesRow], by simp [bytesRow]⟩
  go_enter Try.func4, Try.ntmps4
  go_wp2_with fail
  clear hcv
  rw [show ∀ o : Obj, w.drew.alloc o = (w.alloc o).drew from fun _ => rfl] at hB1 hR1 hW1
  generalize grownCap w s.size 0 5 = cap at hB1 hR1 hW1 ⊢
  generalize World.drew _ = W1 at hB1 hR1 hW1 ⊢
  refine (Decode_any _ (strNums s) _ hR1).mono ?_
  rintro e W2 h2
  obtain ⟨hb2, ao, c, rfl, hln, hln1, hA2, hf2⟩ := h2.shape (strNums_b s)
  clear h2
  have hg1 := hW1.lt
  have hB2 := hB1.trans (hb2.mono hB1.size)
  have hb3 : Below W2.heap.size W2 (W2.alloc (Pkt.box { decP (strNums s) with la := ao, lc := c })) := (Below.refl _ _).alloc (Nat.le_refl _) _
  have hb13 := hb2.trans (hb3.mono hb2.size)
  have hW3 := hW1.block (hb13.block _ hg1)
  have hcv := conv_rest (hR1.kept hb13)
  rw [strOfNums_strNums] at hcv
  have hB3 := hB2.trans (hb3.mono hB2.size)
  have hA3 := hA2.below hb3
  have hP3 : PB { decP (strNums s) with la := ao, lc := c } W2.heap.size (W2.alloc (Pkt.box { decP (strNums s) with la := ao, lc := c })) := PB.new _ W2
  have hC : W1.heap.size ≤ W2.heap.size := hb2.size
  have hC3 := hP3.lt
  dsimp only [Pkt.box] at hcv hW3 hB3 hA3 hP3 hC3
  clear hB2 hA2 hb3 hb13 hR1 hW1 hB1 hb2
  generalize hp : decP (strNums s) = p at hcv hW3 hB3 hA3 hP3 hC3 hln hln1 ⊢
  have hp' := (show Hid _ from hp)
  clear hp
  go_wp2_with fail
  clear hcv
  generalize W2.heap.size = C at hC hP3 hC3 ⊢
  generalize World.alloc _ _ = W3 at hW3 hB3 hA3 hP3 hC3 ⊢
  have hgr := grown_self W3 (some w.heap.size)
  go_loopw [7] (fun i wr => ∃ j : Nat, j ≤ s.size ∧ i = .int .i64 j ∧ BRow w.heap.size s.size wr ∧ W3.grownBy wr (some w.heap.size)) (fun i _ => s.size - (intOf i).toNat)
  case atStart => exact ⟨0, Nat.zero_le _, rfl, hW3, hgr⟩
  case round =>
    clear hW3 hgr
    obtain ⟨j, hj, rfl, hW, hG⟩ := hrel
    by_cases hlt : j < s.size
    · obtain ⟨u, hcl⟩ := hW.cell hlt
      have hfz := hW.frozen hlt
      go_wp2
      go_roundw
      case rel => exact ⟨j + 1, by omega, by go_num, hW.set j _, grown_cellOf hG j _⟩
      case measure => simp [intOf]; omega
    · obtain rfl : j = s.size := by omega
      clear hj hlt hW
      have hB4 := below_of_grown hB3 hG (Nat.le_refl _) hB3.size
      have hA4 := hA3.grownO hf2 hG hg1
      have hP4 := hP3.grown hG (by omega)
      clear hB3 hA3 hP3 hG
      go_wp2_with fail
      refine (refD_any s _).mono ?_
      rintro e W5 h5
      have h6 := h5.shape (strNums_b s)
      clear h5
      rw [hp'.out] at h6
      obtain ⟨hb5, bo, d, rfl, _, _, hA5, hf5⟩ := h6
      have hb6 : Below W5.heap.size W5 (W5.alloc (Pkt.box { p with la := bo, lc := d })) := (Below.refl _ _).alloc (Nat.le_refl _) _
      have hB5 := hB4.trans (hb5.mono hB4.size)
      have hB6 := hB5.trans (hb6.mono hB5.size)
      have hP6 := (hP4.below hb5).below hb6
      have hQ6 : PB { p with la := bo, lc := d } W5.heap.size (W5.alloc (Pkt.box { p with la := bo, lc := d })) := PB.new _ W5
      have hA6 := (hA4.below hb5).below hb6
      have hA7 := hA5.below hb6
      obtain ⟨a0, a1, a2, a3, a4, a5, a6, a7, a8, a9, a10, a11⟩ := hP6.cell
      obtain ⟨b0, b1, b2, b3, b4, b5, b6, b7, b8, b9, b10, b11⟩ := hQ6.cell
      dsimp only [Pkt.box] at a0 a1 a2 a3 a4 a5 a6 a7 a8 a9 a10 a11 b0 b1 b2 b3 b4 b5 b6 b7 b8 b9 b10 b11 hB6 hA6 hA7
      clear hB4 hb5 hB5 hP4 hA4 hA5 hf5 hf2 hb6 hP6 hQ6
      go_wp2_with fail
      clear a0 a1 a2 a3 a4 a5 a6 a7 a8 a9 a10 a11 b0 b1 b2 b3 b4 b5 b6 b7 b8 b9 b10 b11
      refine (packets_eq p ao bo c d (decL (strNums s)) hln hln1 _ hA6 hA7).mono ?_
      rintro e W7 ⟨rfl, hb7⟩
      have hB7 := hB6.trans (hb7.mono hB6.size)
      clear hB6 hA6 hA7 hb7
      go_wp2_with fail
      go_ret
      exact ⟨rfl, hB7⟩

theorem Decodes_any (s : ByteArray) (w : World) :
    Calls Try.prog 4 #[.string s] w fun e w' => e = .returned (.bool true) ∧ Below w.heap.size w w' := by
  by_cases hs : 65536 < s.size
  · exact Decodes_long s hs w
  · exact Decodes_short s (by omega) w

set_option maxRecDepth 100000 in
theorem decodes_lifted (os : Os) (started : os.Started) (H : Type) (enc : TypeId × Value → H) :
    ReturnsInHanded {} Try.checked os 4 .any (Rows.decodesSpec.pre6 enc Try.prog Try.f4 Rows.decodesRow.domain false) (Rows.decodesSpec.post enc Try.prog Try.f4 false true false false) := by
  refine returnsInHanded_of_change (C := Try.checked) own started (by kernel_rfl) Try.func4
    (ChangeSpec.witness6 (enc := enc) (C := Try.checked) false ⟨#[], #[.string ⟨#[]⟩], []⟩ 8 (by kernel_rfl) (by kernel_rfl) (by kernel_rfl) (by kernel_rfl)) ?_
  intro W base args ds gs before hval0 hW _ _
  have hval : ∀ (j : Nat) t v, Try.f4.params[j]? = some t → args[j]? = some v → Value.okWide Try.prog W .any base t v := hval0
  have hW' := hW
  obtain ⟨p, q, hA0, hV, rfl, _, _⟩ := hW
  have hA : DataW.TrodAll enc Try.prog W 0 (fun _ => true) true Try.f4.params.toList args.toList ds p := hA0
  rw [Try.params4] at hA hval
  obtain ⟨v0, d0, rfl, rfl, h0⟩ := trodAll_one hA
  obtain ⟨rfl, rfl⟩ := trodVars_none hV
  have h0k := h0
  obtain ⟨s, rfl, rfl, rfl, _⟩ := Go.ChangeMaps.open_string Try.underlying9 (hval 0 9 v0 rfl rfl) h0
  clear hA0 hval0
  simp only [List.append_nil] at hW'
  refine (Decodes_any s W).mono fun e W' ⟨he, hb⟩ => ?_
  subst he
  refine ⟨_, rfl, _, _, _, [], [], [], hW', trodAll_mk1 (shut_bool Try.underlying4 _), ?_, rfl, hb.frame _, fun h => by cases h⟩
  have hs : DataW.Trod enc Try.prog W' 0 (fun b => decide (b < W.heap.size)) true 9 (.string s) (.lit (.string s.data.toList)) [] := Below.trod laidOut (by kernel_rfl) (of_decide_eq_true (by kernel_rfl)) h0k hb (fun x hx => by cases hx)
  exact trodAll_mk1 hs

theorem decodes_holds : Rows.DecodesSaid :=
  OpenClaim.holds_of_wide 4 Try.f4 rfl rfl rfl rfl rfl rfl rfl ⟨rfl, rfl, rfl, rfl, rfl⟩ rfl rfl rfl rfl rfl (by kernel_rfl) Try.func4 (by kernel_rfl)
    (of_decide_eq_true (by kernel_rfl)) (by unfold Func.isWrapper; rw [if_neg (of_decide_eq_false (by kernel_rfl))]; exact ⟨rfl, rfl⟩)
    (fun os started H enc _ => decodes_lifted os started H enc)
#print axioms decodes_holds
end Go.Proofs.Ytmahaccaglaldaa
