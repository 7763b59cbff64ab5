import Derived.Test.YtpdjhcfkhblioabGreatG0
import Derived.Test.YtpdjhcfkhblioabGreatQ1
import Derived.Maps.OwnSet
import Derived.BigRegion
import Derived.ChangeAlike
namespace Go.Proofs.YtpdjhcfkhblioabGreat
open Go.RowKit Go.Maps
open Hp

theorem ti_law : Keyed Tryz.prog 3 := int_keyed Tryz.underlying3
theorem ti_zero (w : World) : (zeroValue 3).run Tryz.prog w = .ok (.int .i64 0) w := by kernel_rfl
/-- A number that an int holds. -/
def I64 (k : Int) : Prop := -9223372036854775808 ≤ k ∧ k ≤ 9223372036854775807
theorem I64.wf {k : Int} (h : I64 k) : (Lit.int .i64 k).wf = true := WalkArith.wf_i64 h
theorem I64.key {k : Int} (h : I64 k) : keyOf Tryz.prog 3 (.int .i64 k) = some (.int .i64 k) := keyOf_int_mk Tryz.underlying3 h.wf

/-- A map from ids to places. -/
def MapI (W : World) (M : Nat) (f : Int → Option Nat) (s : Nat) : Prop :=
  ∃ D : DataW Unit, W.ownsMap Tryz.prog 3 (plainElem Tryz.prog 3) M s D ∧ Maps.size D = s ∧
    ∀ k, I64 k → Maps.has D (.int .i64 k) = (f k).isSome ∧ ∀ v, f k = some v → ∀ zd, D.atKey (.int .i64 k) zd = .lit (.int .i64 (v : Int))

def upd (f : Int → Option Nat) (k : Int) (v : Option Nat) : Int → Option Nat := fun x => if x = k then v else f x

theorem ownsMap_tight {P : Program} {k : TypeId} {R : Value → Option (DataW Unit × List MemPlace)} {w : World} {b n : Nat} {D : DataW Unit} (h : w.ownsMap P k R b n D) : w.ownsMap P k R b (Maps.size D) D := by
  obtain ⟨es, clock, hb, F, hs, rfl⟩ := h
  refine ⟨es, clock, hb, F, ?_, rfl⟩
  simp [Maps.size, length_sorted]

theorem MapI.made (w : World) : MapI (w.alloc (.map #[] 0)) w.heap.size (fun _ => none) 0 := by
  refine ⟨.map [], World.ownsMap_made w _ _ _, rfl, fun k _ => ⟨?_, fun v hv => by cases hv⟩⟩
  rfl
theorem MapI.kept {W W' : World} {M : Nat} {f : Int → Option Nat} {s : Nat} {row : Option Nat} (h : MapI W M f s) (hg : W.grownBy W' row) (hne : some M ≠ row) : MapI W' M f s := by
  obtain ⟨D, h1, h2, h3⟩ := h
  exact ⟨D, h1.kept hg hne, h2, h3⟩
theorem MapI.lt {W : World} {M : Nat} {f : Int → Option Nat} {s : Nat} (h : MapI W M f s) : M < W.heap.size := by
  obtain ⟨D, h1, _⟩ := h
  exact h1.lt
end Go.Proofs.YtpdjhcfkhblioabGreat
