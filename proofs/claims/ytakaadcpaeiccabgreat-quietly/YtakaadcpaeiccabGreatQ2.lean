import Derived.Test.YtakaadcpaeiccabGreatG0
import Derived.Test.YtakaadcpaeiccabGreatQ1
import Derived.Maps.OwnSet
import Derived.BigRegion
import Derived.ChangeAlike
namespace Go.Proofs.YtakaadcpaeiccabGreat
open Go.RowKit Go.Maps
open Hp

theorem ti_law : Keyed Tryz.prog 3 := int_keyed Tryz.underlying3
theorem ti_zero (w : World) : (zeroValue 3).run Tryz.prog w = .ok (.int .i64 0) w := by kernel_rfl
theorem info_tm : (Tryz.prog.info? 254).map (fun i => (i.zero, i.size, i.bytes)) = some (some (.agg #[.int .u64 0, .int .i64 0, .int .i64 0]), 3, 24) := by kernel_rfl

/-- A number that an int holds. -/
def I64 (k : Int) : Prop := -9223372036854775808 ≤ k ∧ k ≤ 9223372036854775807
theorem I64.wf {k : Int} (h : I64 k) : (Lit.int .i64 k).wf = true := WalkArith.wf_i64 h
theorem I64.key {k : Int} (h : I64 k) : keyOf Tryz.prog 3 (.int .i64 k) = some (.int .i64 k) := keyOf_int_mk Tryz.underlying3 h.wf

/-- A map from ids to places. -/
def MapI (W : World) (M : Nat) (f : Int → Option Nat) (s : Nat) : Prop :=
  ∃ D : DataW Unit, W.ownsMap Tryz.prog 3 (plainElem Tryz.prog 3) M s D ∧ Maps.size D = s ∧
    ∀ k, I64 k → Maps.has D (.int .i64 k) = (f k).isSome ∧ ∀ v, f k = some v → ∀ zd, D.atKey (.int .i64 k) zd = .lit (.int .i64 (v : Int))

def upd (f : Int → Option Nat) (k : Int) (v : Option Nat) : Int → Option Nat := fun x => if x = k then v else f x

theorem ownsMap_tight {P : Program} {k : TypeId} {R : Value → Option (DataW Unit × List MemPlace)} {w : World} {b n : Nat} {D : DataW Unit} (h : w.ownsMap P k R b n D) : w.ownsMap P k R b (Maps.size D) D := by
  obtain ⟨es, clock, hb, F, hs, rfl⟩ := h
  refine ⟨es, clock, hb, F, ?_, rfl⟩
  simp [Maps.size, length_sorted]

theorem MapI.made (w : World) : MapI (w.alloc (.map #[] 0)) w.heap.size (fun _ => none) 0 := by
  refine ⟨.map [], World.ownsMap_made w _ _ _, rfl, fun k _ => ⟨?_, fun v hv => by cases hv⟩⟩
  rfl
theorem MapI.kept {W W' : World} {M : Nat} {f : Int → Option Nat} {s : Nat} {row : Option Nat} (h : MapI W M f s) (hg : W.grownBy W' row) (hne : some M ≠ row) : MapI W' M f s := by
  obtain ⟨D, h1, h2, h3⟩ := h
  exact ⟨D, h1.kept hg hne, h2, h3⟩
theorem MapI.lt {W : World} {M : Nat} {f : Int → Option Nat} {s : Nat} (h : MapI W M f s) : M < W.heap.size := by
  obtain ⟨D, h1, _⟩ := h
  exact h1.lt
/-- 'm[k] = v'. -/
theorem MapI.put {W : World} {M : Nat} {f : Int → Option Nat} {s : Nat} (h : MapI W M f s) (hs : s < maxLen) {k : Int} (hk : I64 k) {v : Nat} (hv : I64 (v : Int)) :
    ∃ W', (Instr.mapUpdate 162 (.map (some M)) (.int .i64 k) (.int .i64 (v : Int))).run Tryz.prog W = .ok () W' ∧ MapI W' M (upd f k (some v)) (if (f k).isSome then s else s + 1) ∧ W.grownBy W' (some M) := by
  obtain ⟨D, h1, h2, h3⟩ := h
  obtain ⟨W', hr, ho, ht⟩ := h1.store ti_law Tryz.underlying162 hs hk.key (plainElem_int Tryz.underlying3 hv.wf)
  have hm := h1.isMap
  have htd := h1.tidy ti_law
  have hkl : WideAt.IsKeyLit (.int .i64 k) := by trivial
  have hsz : Maps.size (D.put (.int .i64 k) (.lit (.int .i64 (v : Int)))) = if (f k).isSome then s else s + 1 := by
    rw [size_put htd, (h3 k hk).1, h2]
  refine ⟨W', hr, ⟨_, ?_, hsz, fun x hx => ?_⟩, ht.grown⟩
  · have := ownsMap_tight ho
    rw [hsz] at this
    exact this
  · by_cases e : x = k
    · subst e
      refine ⟨by rw [has_put_same hm hkl]; simp [upd], fun u hu zd => ?_⟩
      simp only [upd, if_true, Option.some.injEq] at hu
      subst hu
      exact atKey_put_same hm hkl _ zd
    · have hne : (Lit.int .i64 x) ≠ .int .i64 k := fun h => e (by cases h; rfl)
      refine ⟨by rw [has_put_other hne]; simp [upd, e, (h3 x hx).1], fun u hu zd => ?_⟩
      simp only [upd, if_neg e] at hu
      rw [atKey_put_other hne]
      exact (h3 x hx).2 u hu zd
/-- 'delete(m, k)'. -/
theorem MapI.del {W : World} {M : Nat} {f : Int → Option Nat} {s : Nat} (h : MapI W M f s) {k : Int} (hk : I64 k) (ty : TypeId) (hf : (f k).isSome = true) :
    ∃ W', (Builtin.delete_ #[162, 3] ty #[.map (some M), .int .i64 k]).run Tryz.prog W = .ok (.tuple #[]) W' ∧ MapI W' M (upd f k none) (s - 1) ∧ W.grownBy W' (some M) := by
  obtain ⟨D, h1, h2, h3⟩ := h
  obtain ⟨W', hr, ho, ht⟩ := h1.drop ti_law Tryz.underlying162 hk.key ty
  have htd := h1.tidy ti_law
  have hsz : Maps.size (D.del (.int .i64 k)) = s - 1 := by
    have := size_del (k := .int .i64 k) htd
    rw [(h3 k hk).1, hf, h2] at this
    simp at this
    omega
  refine ⟨W', hr, ⟨_, ?_, hsz, fun x hx => ?_⟩, ht.grown⟩
  · have := ownsMap_tight ho
    rw [hsz] at this
    exact this
  · by_cases e : x = k
    · subst e
      refine ⟨by rw [has_del_same]; simp [upd], fun u hu zd => ?_⟩
      simp [upd] at hu
    · have hne : (Lit.int .i64 x) ≠ .int .i64 k := fun h => e (by cases h; rfl)
      refine ⟨by rw [has_del_other hne]; simp [upd, e, (h3 x hx).1], fun u hu zd => ?_⟩
      simp only [upd, if_neg e] at hu
      rw [atKey_del_other hne]
      exact (h3 x hx).2 u hu zd
/-- 'v, ok := m[k]'. -/
theorem MapI.look {W : World} {M : Nat} {f : Int → Option Nat} {s : Nat} (h : MapI W M f s) {k : Int} (hk : I64 k) :
    ∃ v : Int, (Instr.lookup 162 (.map (some M)) (.int .i64 k) true).run Tryz.prog W = .ok (.tuple #[.int .i64 v, .bool (f k).isSome]) W ∧ ∀ u, f k = some u → v = (u : Int) := by
  obtain ⟨D, h1, h2, h3⟩ := h
  obtain ⟨v, ps, hr, hv⟩ := h1.look_ok ti_law Tryz.underlying162 (ti_zero W) (plainElem_int Tryz.underlying3 (by decide)) hk.key
  obtain ⟨c, rfl, he, _⟩ := plainElem_int_inv Tryz.underlying3 hv
  rw [(h3 k hk).1] at hr
  refine ⟨c, hr, fun u hu => ?_⟩
  have := (h3 k hk).2 u hu (.lit (.int .i64 0))
  rw [this] at he
  simp at he
  exact he.1.symm
end Go.Proofs.YtakaadcpaeiccabGreat
