import Derived.Test.YtppbdalkfkemgaaJ6
import Derived.Test.YtppbdalkfkemgaaG0
namespace Go.Proofs.Ytppbdalkfkemgaa
open Go.RowKit

theorem okR_bytes {L : List (Bool × Int × Int)} (hb : RBd L) (k : Nat) : RBd (L.drop k) := fun x hx => hb x (List.mem_of_mem_drop hx)
/-- What is read where one byte is another. -/
theorem jl_torn {L : List (Bool × Int × Int)} (hb : RBd L) {k : Nat} (hk : k < 13 * L.length) {y z : Int} (hz : (flatR L)[k]? = some z) (hy : 0 ≤ y ∧ y ≤ 255) (hne : y ≠ z) :
    jl ((flatR L).set k y) = (L.take (k / 13)).map norm := by
  obtain ⟨x, hx, he⟩ := flatR_split L k hk
  have hl : (flatR (L.take (k / 13))).length = 13 * (k / 13) := by
    rw [flatR_length, List.length_take, Nat.min_eq_left (by omega)]
  have h13 : (recB3 x).length = 13 := rfl
  rw [he] at hz ⊢
  rw [List.getElem?_append_right (by omega), List.getElem?_append_left (by omega)] at hz
  rw [List.set_append_right _ _ (by omega), List.set_append_left _ _ (by omega)]
  exact jl_flat _ _ (okR_torn (hb x (List.mem_of_getElem? hx)) (by omega) hz hy hne _ (flatR_b (okR_bytes hb _)))

theorem RC_get (L : List (Bool × Int × Int)) (j : Nat) : (RC L)[j * 3]? = (L[j]?).map (fun x => Value.bool x.1) ∧ (RC L)[j * 3 + 1]? = (L[j]?).map (fun x => Value.int .u32 x.2.1) ∧ (RC L)[j * 3 + 2]? = (L[j]?).map (fun x => Value.int .u32 x.2.2) := by
  induction L generalizing j with
  | nil => simp [RC]
  | cons a L ih =>
    cases j with
    | zero => simp [RC]
    | succ j =>
      have h := ih j
      simp only [RC, List.flatMap_cons] at h ⊢
      rw [show (j + 1) * 3 = j * 3 + 1 + 1 + 1 by omega]
      simpa using h
theorem RC_oneCell (L : List (Bool × Int × Int)) : ∀ u ∈ RC L, u.oneCell' = true := by
  intro u hu
  simp only [RC, List.mem_flatMap, List.mem_cons, List.not_mem_nil, or_false] at hu
  obtain ⟨x, _, rfl | rfl | rfl⟩ := hu <;> rfl
end Go.Proofs.Ytppbdalkfkemgaa
