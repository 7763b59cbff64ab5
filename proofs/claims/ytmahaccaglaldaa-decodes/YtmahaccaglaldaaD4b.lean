import Derived.Test.YtmahaccaglaldaaD4
import Derived.Test.YtmahaccaglaldaaD3
namespace Go.Proofs.Ytmahaccaglaldaa
open Go.RowKit

theorem conv_rest {W : World} {v : Value} {xs : List Int} (h : RestV W v xs) : (convert 27 9 v).run Try.prog W = .ok (.string (strOfNums xs)) W := by
  rcases h.2 with ⟨rfl, rfl⟩ | ⟨b, o, c, rfl, _, _, h3⟩
  · exact run_convert_bytes_nil (P := Try.prog) W 27 5 Try.underlying27 Try.underlying5 0 0 9 Try.underlying9
  · refine run_convert_bytes_arg (P := Try.prog) W 27 5 Try.underlying27 Try.underlying5 b o xs.length c xs rfl ?_ 9 Try.underlying9
    intro i hi
    rw [h3 i xs[i] (List.getElem?_eq_getElem hi)]
    simp [hi]

theorem HoldsA.far {W : World} {g : Nat} {L : List (Int × Int)} (h : HoldsA W (some ⟨g, 0, none⟩) L) {a : Addr} (ha : a.block ≠ g) (v : Value) : HoldsA (W.setCell a v) (some ⟨g, 0, none⟩) L := by
  intro j hj
  obtain ⟨lb, lo, d, s, h1, h2, h3, h4, h5, h6, h7, h8, h9⟩ := h j hj
  have e := h1
  simp only [Option.some.injEq, Addr.mk.injEq, and_true] at e
  obtain ⟨rfl, rfl⟩ := e
  exact ⟨g, 0, d, s, rfl, by simpa using h2, h3, h4, h5, h6, h7, (setCell_far W a _ v (fun e => ha e.symm)).trans h8, (setCell_far W a _ v (fun e => ha e.symm)).trans h9⟩
theorem HoldsA.store12 {W : World} {g C : Nat} {L : List (Int × Int)} (h : HoldsA W (some ⟨g, 0, none⟩) L) (hC : C ≠ g) (p : Pkt) : HoldsA (store12 W C p) (some ⟨g, 0, none⟩) L :=
  HoldsA.far (HoldsA.far (HoldsA.far (HoldsA.far (HoldsA.far (HoldsA.far (HoldsA.far (HoldsA.far (HoldsA.far (HoldsA.far (HoldsA.far (HoldsA.far h (a := ⟨C, 0, none⟩) hC _) (a := ⟨C, 1, none⟩) hC _) (a := ⟨C, 2, none⟩) hC _) (a := ⟨C, 3, none⟩) hC _) (a := ⟨C, 4, none⟩) hC _) (a := ⟨C, 5, none⟩) hC _) (a := ⟨C, 6, none⟩) hC _) (a := ⟨C, 7, none⟩) hC _) (a := ⟨C, 8, none⟩) hC _) (a := ⟨C, 9, none⟩) hC _) (a := ⟨C, 10, none⟩) hC _) (a := ⟨C, 11, none⟩) hC _
end Go.Proofs.Ytmahaccaglaldaa
