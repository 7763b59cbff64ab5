import Derived.Test.YtpdjhcfkhblioaaGA
import Derived.Deep.QuietTactic
import Derived.BigQuiet
namespace Go.Proofs.Ytpdjhcfkhblioaa
open Go.RowKit

set_option maxRecDepth 100000 in
set_option maxHeartbeats 2000000 in
theorem records_same (ao bo : Option Addr) (n c1 c2 : Nat) (L : List (Bool × Int × Int)) (hL : L.length = n) (hn : n ≤ 1000000) (w : World) (hA : HoldsC w ao (RC L)) (hB : HoldsC w bo (RC L)) :
    Calls Try.prog 21 #[.slice ao n c1, .slice bo n c2] w fun e w' => e = .returned (.bool true) ∧ Below w.heap.size w w' := by
  go_enter Try.func21, Try.ntmps21
  go_wp2_with fail
  go_loopw [5] (fun i wr => ∃ k : Nat, k ≤ n ∧ i = .int .i64 k ∧ Below w.heap.size w wr) (fun i _ => n - (intOf i).toNat)
  case atStart => exact ⟨0, Nat.zero_le _, rfl, Below.refl _ _⟩
  case round =>
    obtain ⟨k, hk, rfl, hb⟩ := hrel
    by_cases hlt : k < n
    · have hki : (k : Int) < (n : Int) := by omega
      obtain ⟨x, hx⟩ : ∃ x, L[k]? = some x := ⟨_, List.getElem?_eq_getElem (by omega)⟩
      have hat : ∀ i z, i < 3 → ([.bool x.1, .int .u32 x.2.1, .int .u32 x.2.2] : List Value)[i]? = some z → (RC L)[k * 3 + i]? = some z := fun i z hi hz => (flat_at (fun x : Bool × Int × Int => ([Value.bool x.1, Value.int .u32 x.2.1, Value.int .u32 x.2.2] : List Value)) 3 (by decide) (fun _ => rfl) L k i hi hx).trans hz
      have hA' := hA.below hb
      have hB' := hB.below hb
      obtain ⟨b1, o1, rfl, hj1⟩ := hA' (k * 3 + 0) _ (hat 0 _ (by decide) rfl)
      obtain ⟨b2, o2, rfl, hj2⟩ := hB' (k * 3 + 0) _ (hat 0 _ (by decide) rfl)
      have d0 := hA'.one rfl (hat 0 _ (by decide) rfl)
      have d1 := hA'.one rfl (hat 1 _ (by decide) rfl)
      have d2 := hA'.one rfl (hat 2 _ (by decide) rfl)
      have e0 := hB'.one rfl (hat 0 _ (by decide) rfl)
      have e1 := hB'.one rfl (hat 1 _ (by decide) rfl)
      have e2 := hB'.one rfl (hat 2 _ (by decide) rfl)
      clear hj1 hj2 hat hA' hB' hx
      obtain ⟨xo, xa, xs⟩ := x
      dsimp only at d0 d1 d2 e0 e1 e2
      rw [Nat.add_zero] at d0 e0
      rw [← Nat.add_assoc] at d1 d2 e1 e2
      go_wp2_with fail
      go_quiet (fail)
      go_wp2
      go_roundw
      case rel => exact ⟨k + 1, by omega, by go_num, below_drewN hb _⟩
      case measure => simp [intOf] <;> omega
    · obtain rfl : k = n := by omega
      go_wp2
      go_ret
      exact ⟨rfl, hb⟩
end Go.Proofs.Ytpdjhcfkhblioaa
