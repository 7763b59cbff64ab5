import Derived.Test.YtpdjhcfkhblioaaGH
namespace Go.Proofs.Ytpdjhcfkhblioaa
open Go.RowKit

@[reducible] def storeAt (W : World) (g k : Nat) (x : Rt) (v : Value) : World := ((((((W.setCell ⟨g, k * 7, none⟩ (.int .u32 x.dest)).setCell ⟨g, k * 7 + 1, none⟩ (.int .u32 x.seq)).setCell ⟨g, k * 7 + 2, none⟩ (.int .i64 x.hops)).setCell ⟨g, k * 7 + 3, none⟩ (.int .u32 x.next)).setCell ⟨g, k * 7 + 4, none⟩ (.bool x.valid)).setCell ⟨g, k * 7 + 5, none⟩ (.int .u64 x.exp)).setCell ⟨g, k * 7 + 6, none⟩ v
/-- A line stored whole in a row. -/
theorem row_store {W : World} {base n g cap k : Nat} {L : List (Rt × Value)} {p : Rt × Value} (h : W.ownsRow base 79 7 (.slice (some ⟨g, 0, none⟩) n cap) n (RtC L)) (hp : L[k]? = some p) (x : Rt) (v : Value) :
    (storeAt W g k x v).ownsRow base 79 7 (.slice (some ⟨g, 0, none⟩) n cap) n (RtC (L.set k (x, v))) ∧ W.grownBy (storeAt W g k x v) (some g) := by
  have hk := (List.getElem?_eq_some_iff.1 hp).1
  obtain ⟨y, u⟩ := p
  have at1 : ∀ q : Rt × Value, (L.set k q)[k]? = some q := fun q => List.getElem?_set_self hk
  have s0 := h.stored (k * 7) (.int .u32 x.dest)
  have e0 : (RtC L).set (k * 7) (.int .u32 x.dest) = RtC (L.set k ({ y with dest := x.dest }, u)) := RtC_set (i := 0) hp (by omega) rfl
  rw [e0] at s0
  have s1 := s0.1.stored (k * 7 + 1) (.int .u32 x.seq)
  rw [RtC_set (i := 1) (u := .int .u32 x.seq) (p' := ({ y with dest := x.dest, seq := x.seq }, u)) (at1 ({ y with dest := x.dest }, u)) (by omega) rfl, List.set_set] at s1
  have s2 := s1.1.stored (k * 7 + 2) (.int .i64 x.hops)
  rw [RtC_set (i := 2) (u := .int .i64 x.hops) (p' := ({ y with dest := x.dest, seq := x.seq, hops := x.hops }, u)) (at1 ({ y with dest := x.dest, seq := x.seq }, u)) (by omega) rfl, List.set_set] at s2
  have s3 := s2.1.stored (k * 7 + 3) (.int .u32 x.next)
  rw [RtC_set (i := 3) (u := .int .u32 x.next) (p' := ({ y with dest := x.dest, seq := x.seq, hops := x.hops, next := x.next }, u)) (at1 ({ y with dest := x.dest, seq := x.seq, hops := x.hops }, u)) (by omega) rfl, List.set_set] at s3
  have s4 := s3.1.stored (k * 7 + 4) (.bool x.valid)
  rw [RtC_set (i := 4) (u := .bool x.valid) (p' := ({ y with dest := x.dest, seq := x.seq, hops := x.hops, next := x.next, valid := x.valid }, u)) (at1 ({ y with dest := x.dest, seq := x.seq, hops := x.hops, next := x.next }, u)) (by omega) rfl, List.set_set] at s4
  have s5 := s4.1.stored (k * 7 + 5) (.int .u64 x.exp)
  rw [RtC_set (i := 5) (u := .int .u64 x.exp) (p' := ({ x with bef := y.bef }, u)) (at1 ({ y with dest := x.dest, seq := x.seq, hops := x.hops, next := x.next, valid := x.valid }, u)) (by omega) rfl, List.set_set] at s5
  have s6 := s5.1.stored (k * 7 + 6) v
  rw [RtC_set (i := 6) (u := v) (p' := (x, v)) (at1 ({ x with bef := y.bef }, u)) (by omega) rfl, List.set_set] at s6
  exact ⟨s6.1, grown_cellOf (grown_cellOf (grown_cellOf (grown_cellOf (grown_cellOf (grown_cellOf s0.2 _ _) _ _) _ _) _ _) _ _) _ _⟩
/-- The first j lines overwritten by one and the same. -/
def overL (q : Rt × Value) (j : Nat) (L : List (Rt × Value)) : List (Rt × Value) := (L.take j).map (fun _ => q) ++ L.drop j
theorem overL_zero (q : Rt × Value) (L : List (Rt × Value)) : overL q 0 L = L := by simp [overL]
theorem overL_get (q : Rt × Value) {L : List (Rt × Value)} {j : Nat} : (overL q j L)[j]? = L[j]? := by
  unfold overL
  by_cases hj : j ≤ L.length
  · have h0 : ((L.take j).map fun _ => q).length = j := by rw [List.length_map, List.length_take, Nat.min_eq_left hj]
    rw [List.getElem?_append_right (by omega), h0, Nat.sub_self, List.getElem?_drop, Nat.add_zero]
  · rw [List.getElem?_eq_none (by simp; omega), List.getElem?_eq_none (by omega)]
theorem overL_set (q : Rt × Value) {L : List (Rt × Value)} {j : Nat} {p : Rt × Value} (hp : L[j]? = some p) : (overL q j L).set j q = overL q (j + 1) L := by
  obtain ⟨hj, rfl⟩ := List.getElem?_eq_some_iff.1 hp
  unfold overL
  have h0 : j - ((L.take j).map fun _ => q).length = 0 := by rw [List.length_map, List.length_take, Nat.min_eq_left (Nat.le_of_lt hj), Nat.sub_self]
  rw [List.set_append_right _ _ (by simp; omega), List.take_succ_eq_append_getElem hj, List.map_append, List.append_assoc]
  congr 1
  rw [h0, List.drop_eq_getElem_cons hj]
  rfl
end Go.Proofs.Ytpdjhcfkhblioaa
