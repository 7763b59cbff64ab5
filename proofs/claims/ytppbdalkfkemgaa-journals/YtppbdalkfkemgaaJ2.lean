import Derived.Test.YtppbdalkfkemgaaJ1
import Derived.Test.YtppbdalkfkemgaaB1
import Derived.Deep.RegionHeld3
namespace Go.Proofs.Ytppbdalkfkemgaa
open Go.RowKit

/-- A record as the walks have it. -/
@[reducible] def recV (o : Bool) (a s : Int) : Value := .agg #[.bool o, .int .u32 a, .int .u32 s]
@[reducible] def recBox (o : Bool) (a s : Int) : Obj := .cells #[.bool o, .int .u32 a, .int .u32 s] 41
/-- The nine bytes of a record, and all thirteen. -/
def recH (o : Bool) (a s : Int) : List Int := (if o then 1 else 2) :: (b4 (if o then 0 else a) ++ b4 s)
def recB (o : Bool) (a s : Int) : List Int := recH o a s ++ b4 (crc (recH o a s))
theorem recH_length (o : Bool) (a s : Int) : (recH o a s).length = 9 := rfl
theorem recB_length (o : Bool) (a s : Int) : (recB o a s).length = 13 := rfl
theorem recH_b {o : Bool} {a s : Int} (a0 : 0 ≤ a) (a1 : a < 4294967296) (s0 : 0 ≤ s) (s1 : s < 4294967296) : ∀ x ∈ recH o a s, 0 ≤ x ∧ x ≤ 255 := by
  intro x hx
  simp only [recH, List.mem_cons, List.mem_append] at hx
  rcases hx with rfl | hx | hx
  · cases o <;> simp
  · cases o
    · exact b4_b a0 a1 x hx
    · exact b4_b (by simp) (by simp) x hx
  · exact b4_b s0 s1 x hx
theorem recB_b {o : Bool} {a s : Int} (a0 : 0 ≤ a) (a1 : a < 4294967296) (s0 : 0 ≤ s) (s1 : s < 4294967296) : ∀ x ∈ recB o a s, 0 ≤ x ∧ x ≤ 255 := by
  have hh := recH_b (o := o) a0 a1 s0 s1
  intro x hx
  rcases List.mem_append.1 hx with hx | hx
  · exact hh x hx
  · have := crc_b hh
    exact b4_b this.1 this.2 x hx

/-- What a record's box holds where a statement reads it. -/
@[reducible] def RcS (a s : Int) (w W : World) : Prop :=
  W.cell? ⟨w.heap.size, 1, none⟩ = some (.int .u32 a) ∧ W.cell? ⟨w.heap.size, 2, none⟩ = some (.int .u32 s) ∧ w.heap.size < W.heap.size ∧ Below w.heap.size w W
theorem RcS.start (o : Bool) (a s : Int) (w : World) : RcS a s w (w.alloc (recBox o a s)) :=
  ⟨World.cell?_alloc_new w _ _ _, World.cell?_alloc_new w _ _ _, by simp, (Below.refl _ _).alloc (Nat.le_refl _) _⟩
theorem RcS.drew {a s : Int} {w W : World} (h : RcS a s w W) : RcS a s w W.drew := ⟨h.1, h.2.1, h.2.2.1, h.2.2.2.drew⟩
theorem RcS.alloc {a s : Int} {w W : World} (h : RcS a s w W) (o : Obj) : RcS a s w (W.alloc o) := by
  have hb : Below W.heap.size W (W.alloc o) := (Below.refl _ _).alloc (Nat.le_refl _) _
  exact ⟨(hb.cell (p := ⟨w.heap.size, 1, none⟩) h.2.2.1).trans h.1, (hb.cell (p := ⟨w.heap.size, 2, none⟩) h.2.2.1).trans h.2.1, by simp; have := h.2.2.1; omega, h.2.2.2.alloc (Nat.le_of_lt h.2.2.1) _⟩
theorem RcS.grown {a s : Int} {w W W1 : World} {v : Value} {n : Nat} {xs : List Value} (h : RcS a s w W) (ho : W.ownsRow (w.heap.size + 1) 5 1 v n xs) (hg : W.grownBy W1 v.ownBlock) : RcS a s w W1 := by
  have hne : some w.heap.size ≠ v.ownBlock := fun e => by have := (ho.lt _ e.symm).1; omega
  have hb : Below (w.heap.size + 1) W W1 := (Below.refl _ _).grown hg h.2.2.1 fun k hk => (ho.lt k hk).1
  exact ⟨hg.cell h.1 hne, hg.cell h.2.1 hne, Nat.lt_of_lt_of_le h.2.2.1 hg.size, h.2.2.2.trans (hb.mono (Nat.le_succ _))⟩
theorem own_one (base : Nat) (w : World) (x0 : Int) (hb : base ≤ w.heap.size) :
    (w.alloc (.cells #[.int .u8 x0] 5)).ownsRow base 5 1 (.slice (some ⟨w.heap.size, 0, none⟩) 1 1) [x0].length (U [x0]) :=
  ⟨rfl, .inr ⟨w.heap.size, 1, _, rfl, hb, heap_alloc_new w _, Nat.le_refl _, by decide, rfl, rfl⟩⟩

set_option maxRecDepth 100000 in
set_option maxHeartbeats 1000000 in
theorem WriteRecord_any (o : Bool) (a s : Int) (a0 : 0 ≤ a) (a1 : a < 4294967296) (s0 : 0 ≤ s) (s1 : s < 4294967296) (w : World) :
    Calls Try.prog 17 #[recV o a s] w fun e w' => ∃ v, e = .returned v ∧ Below w.heap.size w w' ∧ v ≠ .slice none 0 0 ∧ w'.ownsRow (w.heap.size + 1) 5 1 v 13 (U (recB o a s)) := by
  cases o
  · have hS := RcS.start false a s w
    dsimp only [recBox] at hS
    have hl1 : w.heap.size < (w.alloc (recBox false a s)).heap.size := by simp
    dsimp only [recBox] at hl1
    go_enter Try.func17, Try.ntmps17
    go_wp2_with fail
    generalize World.alloc _ _ = W0 at hS hl1 ⊢
    have own0 := (own_one (w.heap.size + 1) W0 2 hl1).drew
    go_region_held3 (RcS a s w) (first | exact RcS.drew (by assumption) | assumption | exact RcS.alloc (by assumption) _ | exact RcS.grown (by assumption) own0 hgrow5 | exact RcS.grown (by assumption) hown5 hgrow6) (first
      | (go_at_call_of 57 (Value.int IntKind.u32 a); refine (appendNumber_any (w.heap.size + 1) _ a [2] _ a0 a1 own0 (by simp) (by simp; omega) (by simp)).mono ?_; rintro e w5 ⟨v5, rfl, hown5, hgrow5, hnn5⟩)
      | (go_at_call_of 57 (Value.int IntKind.u32 s); refine (appendNumber_any (w.heap.size + 1) _ s ([2] ++ b4 a) _ s0 s1 hown5 hnn5 (Nat.le_trans (Nat.le_of_lt (by simp; omega)) hgrow5.size) (by simp [b4_length])).mono ?_; rintro e w6 ⟨v6, rfl, hown6, hgrow6, hnn6⟩))
    rename_i hS6
    have hb : ∀ x ∈ recH false a s, 0 ≤ x ∧ x ≤ 255 := recH_b a0 a1 s0 s1
    have hown7 : w6.ownsRow (w.heap.size + 1) 5 1 v6 (recH false a s).length (U (recH false a s)) := hown6
    have hr := rest_row hown7 hb
    have hc := crc_b hb
    clear hown6 hgrow6 hown5 hgrow5 own0 hS hl1 hnn5
    go_wp2_with fail
    refine (sum_any _ (recH false a s) _ hr).mono ?_
    rintro e w7 ⟨rfl, rfl⟩
    go_wp2_with fail
    refine (appendNumber_any (w.heap.size + 1) _ _ (recH false a s) _ hc.1 hc.2 hown7 hnn6 hS6.2.2.1 (by rw [recH_length]; omega)).mono ?_
    rintro e w8 ⟨v8, rfl, hown8, hgrow8, hnn8⟩
    go_wp2_with fail
    go_ret
    exact ⟨v8, rfl, hS6.2.2.2.grown hgrow8 (Nat.le_of_lt hS6.2.2.1) (fun k hk => Nat.le_of_succ_le (hown7.lt k hk).1), hnn8, hown8⟩
  · have hS := RcS.start true 0 s w
    dsimp only [recBox] at hS
    have hl1 : w.heap.size < (w.alloc (recBox true 0 s)).heap.size := by simp
    dsimp only [recBox] at hl1
    go_enter Try.func17, Try.ntmps17
    go_wp2_with fail
    generalize World.alloc _ _ = W0 at hS hl1 ⊢
    have own0 := (own_one (w.heap.size + 1) W0 1 hl1).drew
    go_region_held3 (RcS 0 s w) (first | exact RcS.drew (by assumption) | assumption | exact RcS.alloc (by assumption) _ | exact RcS.grown (by assumption) own0 hgrow5 | exact RcS.grown (by assumption) hown5 hgrow6) (first
      | (go_at_call_of 57 (Value.int IntKind.u32 0); refine (appendNumber_any (w.heap.size + 1) _ 0 [1] _ (by decide) (by decide) own0 (by simp) (by simp; omega) (by simp)).mono ?_; rintro e w5 ⟨v5, rfl, hown5, hgrow5, hnn5⟩)
      | (go_at_call_of 57 (Value.int IntKind.u32 s); refine (appendNumber_any (w.heap.size + 1) _ s ([1] ++ b4 0) _ s0 s1 hown5 hnn5 (Nat.le_trans (Nat.le_of_lt (by simp; omega)) hgrow5.size) (by simp [b4_length])).mono ?_; rintro e w6 ⟨v6, rfl, hown6, hgrow6, hnn6⟩))
    rename_i hS6
    have hb : ∀ x ∈ recH true 0 s, 0 ≤ x ∧ x ≤ 255 := recH_b (by decide) (by decide) s0 s1
    have hown7 : w6.ownsRow (w.heap.size + 1) 5 1 v6 (recH true 0 s).length (U (recH true 0 s)) := hown6
    have hr := rest_row hown7 hb
    have hc := crc_b hb
    clear hown6 hgrow6 hown5 hgrow5 own0 hS hl1 hnn5
    go_wp2_with fail
    refine (sum_any _ (recH true 0 s) _ hr).mono ?_
    rintro e w7 ⟨rfl, rfl⟩
    go_wp2_with fail
    refine (appendNumber_any (w.heap.size + 1) _ _ (recH true 0 s) _ hc.1 hc.2 hown7 hnn6 hS6.2.2.1 (by rw [recH_length]; omega)).mono ?_
    rintro e w8 ⟨v8, rfl, hown8, hgrow8, hnn8⟩
    go_wp2_with fail
    go_ret
    exact ⟨v8, rfl, hS6.2.2.2.grown hgrow8 (Nat.le_of_lt hS6.2.2.1) (fun k hk => Nat.le_of_succ_le (hown7.lt k hk).1), hnn8, hown8⟩
end Go.Proofs.Ytppbdalkfkemgaa
