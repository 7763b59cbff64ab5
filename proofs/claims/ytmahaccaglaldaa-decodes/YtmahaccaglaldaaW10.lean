import Derived.Test.YtmahaccaglaldaaW9
namespace Go.Proofs.Ytmahaccaglaldaa
open Go.RowKit

theorem strOfNums_append (a b : List Int) : strOfNums a ++ strOfNums b = strOfNums (a ++ b) := by
  apply ByteArray.ext
  simp [strOfNums, ByteArray.data_append]
theorem strOfNums_strNums (s : ByteArray) : strOfNums (strNums s) = s := by
  apply ByteArray.ext
  apply Array.ext'
  simp only [strOfNums, strNums, List.map_map]
  rw [List.map_congr_left (g := id) (fun b _ => by simp)]
  simp

theorem HoldsL.below {w w' : World} {p : Pkt} {L : List (Int × Int)} (h : HoldsL w p L) (hb : Below w.heap.size w w') : HoldsL w' p L := by
  refine ⟨h.1, fun j hj => ?_⟩
  obtain ⟨lb, lo, d, s, h1, h2, h3, h4, h5, h6, h7, h8, h9⟩ := h.2 j hj
  exact ⟨lb, lo, d, s, h1, Nat.lt_of_lt_of_le h2 hb.size, h3, h4, h5, h6, h7, (hb.cell (p := ⟨lb, lo + j * 2, none⟩) h2).trans h8, (hb.cell (p := ⟨lb, lo + j * 2 + 1, none⟩) h2).trans h9⟩

theorem InB.alloc {p : Pkt} {w W : World} (h : InB p w W) (o : Obj) : InB p w (W.alloc o) := h.below ((Below.refl _ _).alloc (Nat.le_refl _) _)

end Go.Proofs.Ytmahaccaglaldaa
