import Derived.Test.YtakaadcpaeiccabGreatV2
namespace Go.Proofs.YtakaadcpaeiccabGreat
open Go.RowKit

theorem putL_length (out : List (Bool × Int × Int)) (r : Bool × Int × Int) : (putL out r).length ≤ out.length + 1 := by
  induction out with
  | nil => simp [putL]
  | cons x l ih =>
    unfold putL
    split
    · simp
    · split
      · simp
      · simp; omega
/-- What both Compacts hand back: the compact list of what counts, in a row of the call's own. -/
def CmpP (L : List (Bool × Int × Int)) (w : World) (e : Ending) (w' : World) : Prop :=
  ∃ v out, e = .returned v ∧ IsCmp (mpL L) (owL L) out ∧ out.length ≤ L.length + 1 ∧ w'.ownsRow w.heap.size 82 3 v out.length (RC out) ∧ Below w.heap.size w w'
theorem take_snocR {L : List (Bool × Int × Int)} {k : Nat} {x : Bool × Int × Int} (h : L[k]? = some x) : L.take (k + 1) = L.take k ++ [x] := by
  obtain ⟨hk, rfl⟩ := List.getElem?_eq_some_iff.1 h
  exact List.take_succ_eq_append_getElem hk

end Go.Proofs.YtakaadcpaeiccabGreat
