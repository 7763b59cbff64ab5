import Derived.Test.YtakaadcpaeiccabGreatV1
import Derived.Test.YtakaadcpaeiccabGreatK4
import Derived.Shelf.SlIter.Collect
import Derived.Maps.AppendAt
namespace Go.Proofs.YtakaadcpaeiccabGreat
open Go.RowKit

theorem RC_drop : ∀ (h : List (Bool × Int × Int)) (m : Nat), RC (h.drop m) = (RC h).drop (m * 3)
  | [], m => by simp [RC]
  | a :: h, 0 => by simp [RC]
  | a :: h, m + 1 => by
    have ih := RC_drop h m
    simp only [RC, List.drop_succ_cons, List.flatMap_cons] at ih ⊢
    rw [ih]
    simp [show (m + 1) * 3 = m * 3 + 1 + 1 + 1 by omega]
theorem RC_take : ∀ (h : List (Bool × Int × Int)) (m : Nat), RC (h.take m) = (RC h).take (m * 3)
  | [], m => by simp [RC]
  | a :: h, 0 => by simp [RC]
  | a :: h, m + 1 => by
    have ih := RC_take h m
    simp only [RC, List.take_succ_cons, List.flatMap_cons] at ih ⊢
    rw [ih]
    simp [show (m + 1) * 3 = m * 3 + 1 + 1 + 1 by omega]
theorem RC_set : ∀ (h : List (Bool × Int × Int)) (m : Nat) (x : Bool × Int × Int) (s : Int), h[m]? = some x → (RC h).set (m * 3 + 2) (.int .u32 s) = RC (h.set m (x.1, x.2.1, s))
  | [], m, x, s, e => by simp at e
  | a :: h, 0, x, s, e => by
    simp only [List.getElem?_cons_zero, Option.some.injEq] at e
    subst e
    simp [RC]
  | a :: h, m + 1, x, s, e => by
    have ih := RC_set h m x s (by simpa using e)
    simp only [RC, List.set_cons_succ, List.flatMap_cons] at ih ⊢
    rw [← ih]
    simp [show (m + 1) * 3 + 2 = m * 3 + 2 + 1 + 1 + 1 by omega]
theorem sliceR_to (g n c k : Nat) (hk : k ≤ c) (W : World) : (Instr.slice 79 (.slice (some ⟨g, 0, none⟩) n c) none (some (.int .i64 k)) none).run Tryz.prog W = .ok (.slice (some ⟨g, 0, none⟩) k c) W := by
  have ht : Tryz.prog.underlying 79 = some (.slice (Tryz.prog.elem 79)) := by simp [Program.elem, Tryz.underlying79]
  have hz : ∀ w, (Go.sizeOf (Tryz.prog.elem 79)).run Tryz.prog w = .ok 3 w := by
    intro w
    simp [go_sem, Program.elem, Tryz.underlying79]
  rw [run_slice_h W 79 _ _ _ ht .i64 _ (by omega) (by omega), hz]
  simp only [Result.andThen, sliced]
  rw [Nat.sub_zero, Nat.sub_zero, Int.toNat_natCast]
  split <;> simp [Addr.add]
theorem sliceR_from (g n c k : Nat) (hk : k ≤ n) : ∃ ad : Addr, (∀ W, (Instr.slice 79 (.slice (some ⟨g, 0, none⟩) n c) (some (.int .i64 k)) none none).run Tryz.prog W = .ok (.slice (some ad) (n - k) (c - k)) W) ∧ (k < c → ad = ⟨g, k * 3, none⟩) := by
  have ht : Tryz.prog.underlying 79 = some (.slice (Tryz.prog.elem 79)) := by simp [Program.elem, Tryz.underlying79]
  have hz : ∀ w, (Go.sizeOf (Tryz.prog.elem 79)).run Tryz.prog w = .ok 3 w := by
    intro w
    simp [go_sem, Program.elem, Tryz.underlying79]
  refine ⟨if c = k then ⟨g, 0, none⟩ else ⟨g, k * 3, none⟩, fun W => ?_, fun h => by rw [if_neg (by omega)]⟩
  rw [run_slice_l W 79 _ _ _ ht .i64 _ (by omega) (by omega), hz]
  simp only [Result.andThen, sliced]
  rw [Int.toNat_natCast]
  split <;> simp [Addr.add_lit]
theorem sliceR_nil (i : Option Value) (j : Option Value) (hi : i = none ∨ i = some (.int .i64 0)) (hj : j = none ∨ j = some (.int .i64 0)) (W : World) : (Instr.slice 79 (.slice none 0 0) i j none).run Tryz.prog W = .ok (.slice none 0 0) W := by
  rcases hi with rfl | rfl <;> rcases hj with rfl | rfl <;> kernel_rfl
theorem appR_nil (W : World) : (Builtin.append_ #[79, 79] 79 #[.slice none 0 0, .slice none 0 0]).run Tryz.prog W = .ok (.slice none 0 0) W := by kernel_rfl
theorem set_self {α : Type} {l : List α} {k : Nat} {x : α} (h : l[k]? = some x) : l.set k x = l := by
  obtain ⟨hk, rfl⟩ := List.getElem?_eq_some_iff.1 h
  exact List.set_getElem_self hk
theorem RBk.setA {B : Nat} {o : Bool} {a s : Int} {W : World} (h : RBk B o a s W) (a' : Int) : RBk B o a' s (W.setCell ⟨B, 1, none⟩ (.int .u32 a')) := by
  unfold RBk at h ⊢
  simp [World.setCell, Array.getElem?_modify, h]
theorem RBk.kept {B : Nat} {o : Bool} {a s : Int} {W W' : World} {r : Option Nat} (h : RBk B o a s W) (hg : W.grownBy W' r) (hr : some B ≠ r) : RBk B o a s W' := (hg.block B h.lt hr).trans h
theorem put_match {out : List (Bool × Int × Int)} {r x : Bool × Int × Int} {k : Nat} (h : putL out r = out.take k ++ putL (out.drop k) r) (hx : out[k]? = some x) (h1 : x.1 = r.1) (h2 : x.2.1 = r.2.1) :
    putL out r = out.set k (x.1, x.2.1, max r.2.2 x.2.2) := by
  obtain ⟨hk, rfl⟩ := List.getElem?_eq_some_iff.1 hx
  rw [h, List.set_eq_take_append_cons_drop, if_pos hk, List.drop_eq_getElem_cons hk]
  simp only [putL, h1, h2, and_self, if_true]
theorem put_break {out : List (Bool × Int × Int)} {r x : Bool × Int × Int} {k : Nat} (h : putL out r = out.take k ++ putL (out.drop k) r) (hx : out[k]? = some x) (h1 : ¬ (x.1 = r.1 ∧ x.2.1 = r.2.1)) (h2 : r.1 = true ∨ (x.1 = false ∧ x.2.1 > r.2.1)) :
    putL out r = out.take k ++ r :: out.drop k := by
  obtain ⟨hk, rfl⟩ := List.getElem?_eq_some_iff.1 hx
  rw [h, List.drop_eq_getElem_cons hk]
  simp only [putL, h1, h2, if_true, if_false]
theorem put_on {out : List (Bool × Int × Int)} {r x : Bool × Int × Int} {k : Nat} (h : putL out r = out.take k ++ putL (out.drop k) r) (hx : out[k]? = some x) (h1 : ¬ (x.1 = r.1 ∧ x.2.1 = r.2.1)) (h2 : ¬ (r.1 = true ∨ (x.1 = false ∧ x.2.1 > r.2.1))) :
    putL out r = out.take (k + 1) ++ putL (out.drop (k + 1)) r := by
  obtain ⟨hk, rfl⟩ := List.getElem?_eq_some_iff.1 hx
  conv => lhs; rw [h, List.drop_eq_getElem_cons hk]
  simp only [putL, h1, h2, if_false]
  rw [List.take_succ_eq_append_getElem hk, List.append_assoc]
  rfl
theorem put_end {out : List (Bool × Int × Int)} {r : Bool × Int × Int} {k : Nat} (h : putL out r = out.take k ++ putL (out.drop k) r) (hk : out.length ≤ k) :
    putL out r = out.take k ++ r :: out.drop k := by
  rw [h, List.drop_eq_nil_of_le hk]
  rfl
/-- What put hands back. -/
def PutP (base : Nat) (g : Option Nat) (T : List (Bool × Int × Int)) (w : World) (e : Ending) (w' : World) : Prop :=
  ∃ v', e = .returned v' ∧ w'.ownsRow base 82 3 v' T.length (RC T) ∧ w.grownBy w' g
theorem below_grown {A B : World} (h : Below A.heap.size A B) (r : Option Nat) : A.grownBy B r := ⟨h.os, h.tape, h.output, h.size, fun k hk _ => h.block k hk⟩

theorem srcR_nil (W : World) : Src Tryz.prog 3 79 (.slice none 0 0) 0 [] W := Src.ofNil W Tryz.underlying79 0

end Go.Proofs.YtakaadcpaeiccabGreat
