import Derived.Test.YtppbdalkfkemgaaQ2
namespace Go.Proofs.Ytppbdalkfkemgaa
open Go.RowKit Go.Maps

theorem tu_law : Keyed Try.prog 23 := int_keyed Try.underlying23
theorem tu_zero (w : World) : (zeroValue 23).run Try.prog w = .ok (.int .u32 0) w := by kernel_rfl
/-- A number that a uint32 holds. -/
def U32 (k : Int) : Prop := 0 ≤ k ∧ k ≤ 4294967295
theorem U32.wf {k : Int} (h : U32 k) : (Lit.int .u32 k).wf = true := WalkArith.wf_u32 h
theorem U32.key {k : Int} (h : U32 k) : keyOf Try.prog 23 (.int .u32 k) = some (.int .u32 k) := keyOf_int_mk Try.underlying23 h.wf
def updU (f : Int → Option Int) (k : Int) (v : Option Int) : Int → Option Int := fun x => if x = k then v else f x

/-- A map from addresses to numbers. -/
def MapU (W : World) (M : Nat) (f : Int → Option Int) (s : Nat) : Prop :=
  ∃ D : DataW Unit, W.ownsMap Try.prog 23 (plainElem Try.prog 23) M s D ∧ Maps.size D = s ∧
    ∀ k, U32 k → Maps.has D (.int .u32 k) = (f k).isSome ∧ D.atKey (.int .u32 k) (.lit (.int .u32 0)) = .lit (.int .u32 ((f k).getD 0))
theorem MapU.kept {W W' : World} {M : Nat} {f : Int → Option Int} {s : Nat} {row : Option Nat} (h : MapU W M f s) (hg : W.grownBy W' row) (hne : some M ≠ row) : MapU W' M f s := by
  obtain ⟨D, h1, h2, h3⟩ := h
  exact ⟨D, h1.kept hg hne, h2, h3⟩
theorem MapU.lt {W : World} {M : Nat} {f : Int → Option Int} {s : Nat} (h : MapU W M f s) : M < W.heap.size := by
  obtain ⟨D, h1, _⟩ := h
  exact h1.lt
theorem MapU.made (w : World) : MapU (w.alloc (.map #[] 0)) w.heap.size (fun _ => none) 0 :=
  ⟨.map [], World.ownsMap_made w _ _ _, rfl, fun _ _ => ⟨rfl, rfl⟩⟩
/-- 'm[k] = v'. -/
theorem MapU.put {W : World} {M : Nat} {f : Int → Option Int} {s : Nat} (h : MapU W M f s) (hs : s < maxLen) {k : Int} (hk : U32 k) {v : Int} (hv : U32 v) :
    ∃ W', (Instr.mapUpdate 120 (.map (some M)) (.int .u32 k) (.int .u32 v)).run Try.prog W = .ok () W' ∧ MapU W' M (updU f k (some v)) (if (f k).isSome then s else s + 1) ∧ W.grownBy W' (some M) := by
  obtain ⟨D, h1, h2, h3⟩ := h
  obtain ⟨W', hr, ho, ht⟩ := h1.store tu_law Try.underlying120 hs hk.key (plainElem_int Try.underlying23 hv.wf)
  have hm := h1.isMap
  have htd := h1.tidy tu_law
  have hkl : WideAt.IsKeyLit (.int .u32 k) := by trivial
  have hsz : Maps.size (D.put (.int .u32 k) (.lit (.int .u32 v))) = if (f k).isSome then s else s + 1 := by
    rw [size_put htd, (h3 k hk).1, h2]
  refine ⟨W', hr, ⟨_, ?_, hsz, fun x hx => ?_⟩, ht.grown⟩
  · have := ownsMap_tight ho
    rw [hsz] at this
    exact this
  · by_cases e : x = k
    · subst e
      refine ⟨by rw [has_put_same hm hkl]; simp [updU], ?_⟩
      rw [atKey_put_same hm hkl]
      simp [updU]
    · have hne : (Lit.int .u32 x) ≠ .int .u32 k := fun h => e (by cases h; rfl)
      refine ⟨by rw [has_put_other hne]; simp [updU, e, (h3 x hx).1], ?_⟩
      rw [atKey_put_other hne, (h3 x hx).2]
      simp [updU, e]
/-- 'm[k]'. -/
theorem MapU.look {W : World} {M : Nat} {f : Int → Option Int} {s : Nat} (h : MapU W M f s) {k : Int} (hk : U32 k) :
    (Instr.lookup 120 (.map (some M)) (.int .u32 k) false).run Try.prog W = .ok (.int .u32 ((f k).getD 0)) W := by
  obtain ⟨D, h1, h2, h3⟩ := h
  obtain ⟨v, ps, hr, hv⟩ := h1.lookup tu_law Try.underlying120 (tu_zero W) (plainElem_int Try.underlying23 (by decide)) hk.key
  obtain ⟨c, rfl, he, _⟩ := plainElem_int_inv Try.underlying23 hv
  rw [(h3 k hk).2] at he
  simp at he
  rw [hr, he.1]
end Go.Proofs.Ytppbdalkfkemgaa
