import Derived.Test.YtppbdalkfkemgaaG0
import Derived.Sort.WalkA
import Derived.Sort.AssemblyPlain
import Derived.ProofKit
import Derived.Laws.OwnMore
import Derived.Deep.QuietTactic
import Derived.BigQuiet
import Derived.BigRegion
import Derived.BigGuard
import Derived.BigCall
import Derived.Maps.AppendAt
namespace Go.Proofs.Ytppbdalkfkemgaa
open Go.RowKit Go.Sort

/-- Numbers as cells. -/
def UC (d : Array Int) : List Value := d.toList.map (Value.int .u32)
theorem UC_length (d : Array Int) : (UC d).length = d.size := by simp [UC]
theorem UC_get {d : Array Int} {j : Nat} (hj : j < d.size) : (UC d)[j]? = some (.int .u32 d[j]!) := by
  simp [UC, hj]
theorem UC_set (d : Array Int) (j : Nat) (x : Int) : (UC d).set j (.int .u32 x) = UC (d.setIfInBounds j x) := by
  simp [UC, List.map_set]
theorem swp_size (d : Array Int) (i j : Nat) : (swp d i j).size = d.size := by simp [swp]

/-- A row of numbers. -/
structure SR (base g cap n : Nat) (d : Array Int) (W : World) : Prop where
  size : d.size = n
  row : W.ownsRow base 23 1 (.slice (some ⟨g, 0, none⟩) n cap) n (UC d)
theorem SR.cell {base g cap n : Nat} {d : Array Int} {W : World} (h : SR base g cap n d W) {j : Nat} (hj : j < n) : W.cell? ⟨g, j, none⟩ = some (.int .u32 d[j]!) :=
  (h.row.cellAt j (by omega)).trans (UC_get (by rw [h.size]; exact hj))
theorem SR.free {base g cap n : Nat} {d : Array Int} {W : World} (h : SR base g cap n d W) (j : Nat) : W.frozen? ⟨g, j, none⟩ = false := h.row.frozenAt j
theorem SR.later {base g cap n : Nat} {d : Array Int} {W W' : World} (h : SR base g cap n d W) (hb : Below W.heap.size W W') : SR base g cap n d W' :=
  ⟨h.size, h.row.kept (row := none) ⟨hb.os, hb.tape, hb.output, hb.size, fun k hk _ => hb.block k hk⟩ (.inr (by simp [Value.ownBlock]))⟩
theorem SR.drewN {base g cap n : Nat} {d : Array Int} {W : World} (h : SR base g cap n d W) (q : Nat) : SR base g cap n d (W.drewN q) :=
  ⟨h.size, h.row.kept (row := none) ⟨rfl, rfl, rfl, Nat.le_refl _, fun _ _ _ => rfl⟩ (.inr (by simp [Value.ownBlock]))⟩
theorem SR.swap {base g cap n : Nat} {d : Array Int} {W : World} (h : SR base g cap n d W) (i j : Nat) :
    SR base g cap n (swp d i j) ((W.setCell ⟨g, i, none⟩ (.int .u32 d[j]!)).setCell ⟨g, j, none⟩ (.int .u32 d[i]!)) := by
  have h1 := (h.row.stored i (.int .u32 d[j]!)).1
  have h2 := (h1.stored j (.int .u32 d[i]!)).1
  rw [UC_set, UC_set] at h2
  exact ⟨by rw [swp_size]; exact h.size, h2⟩
theorem grn_st {A B : World} {g : Nat} (h : A.grownBy B (some g)) (j : Nat) (v : Value) : A.grownBy (B.setCell ⟨g, j, none⟩ v) (some g) :=
  ⟨h.os, h.tape, h.output, by simpa using h.size, fun i hi hne => (Below.heap_setCell B ⟨g, j, none⟩ v i (fun e => hne (by rw [e]))).trans (h.block i hi hne)⟩
theorem grn_rfl (A : World) (r : Option Nat) : A.grownBy A r := ⟨rfl, rfl, rfl, Nat.le_refl _, fun _ _ _ => rfl⟩
theorem grown_swap (W : World) (g i j : Nat) (u v : Value) : W.grownBy ((W.setCell ⟨g, i, none⟩ u).setCell ⟨g, j, none⟩ v) (some g) := grn_st (grn_st (grn_rfl W (some g)) i _) j _
theorem grown_dN (W : World) (q : Nat) (r : Option Nat) : W.grownBy (W.drewN q) r := ⟨rfl, rfl, rfl, Nat.le_refl _, fun _ _ _ => rfl⟩

set_option maxHeartbeats 1000000 in
theorem isNaN_any (x : Int) (w : World) : Calls Try.prog 115 #[.int .u32 x] w fun e w' => e = .returned (.bool false) ∧ w' = w := by
  go_enter Try.func115, Try.ntmps115
  go_wp2
  go_ret
  exact ⟨by simp, rfl⟩
set_option maxHeartbeats 1000000 in
theorem Less_any (x y : Int) (w : World) : Calls Try.prog 107 #[.int .u32 x, .int .u32 y] w fun e w' => e = .returned (.bool (ltInt x y)) ∧ w' = w := by
  go_enter Try.func107, Try.ntmps107
  go_wp2_with (go_at_call 115; refine (isNaN_any _ _).mono ?_; rintro e w' ⟨rfl, rfl⟩)
  go_ret
  exact ⟨rfl, rfl⟩
end Go.Proofs.Ytppbdalkfkemgaa
