import Derived.Test.YtppbdalkfkemgaaJ2
import Derived.Test.YtppbdalkfkemgaaD2
import Derived.Lib.Bytes
namespace Go.Proofs.Ytppbdalkfkemgaa
open Go.RowKit

theorem strNums_of {xs : List Int} (h : ∀ x ∈ xs, 0 ≤ x ∧ x ≤ 255) : strNums (strOfNums xs) = xs := by
  unfold strNums
  rw [strOfNums_data, List.map_map]
  conv => rhs; rw [← List.map_id xs]
  refine List.map_congr_left fun x hx => ?_
  have := h x hx
  simp only [Function.comp_apply, id, UInt8.toNat_ofNat']
  omega
theorem strEq {xs ys : List Int} (hx : ∀ x ∈ xs, 0 ≤ x ∧ x ≤ 255) (hy : ∀ x ∈ ys, 0 ≤ x ∧ x ≤ 255) : ((strOfNums xs).toList == (strOfNums ys).toList) = decide (xs = ys) := by
  rw [Bool.eq_iff_iff]
  simp only [beq_iff_eq, decide_eq_true_eq]
  constructor
  · intro h
    rw [← strNums_of hx, ← strNums_of hy]
    unfold strNums
    have : (strOfNums xs).data.toList = (strOfNums ys).data.toList := by
      rw [Lib.strOfNums_toList, Lib.strOfNums_toList] at h
      exact h
    rw [this]
  · rintro rfl
    rfl

set_option maxHeartbeats 1000000 in
theorem Equal_any (v u : Value) (xs ys : List Int) (w : World) (hv : RestV w v xs) (hu : RestV w u ys) :
    Calls Try.prog 99 #[v, u] w fun e w' => e = .returned (.bool (decide (xs = ys))) ∧ w' = w := by
  have h1 := conv_rest hv
  have h2 := conv_rest hu
  have hx := hv.1
  have hy := hu.1
  clear hv hu
  go_enter Try.func99, Try.ntmps99
  go_wp2
  go_ret
  exact ⟨ret_bool (strEq hx hy), rfl⟩
end Go.Proofs.Ytppbdalkfkemgaa
