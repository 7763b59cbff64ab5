import Derived.Test.YtjkjepoeiabpiaaQ9
namespace Go.Proofs.Ytjkjepoeiabpiaa
open Go.RowKit Go.Maps
open Hp

/-- A plain timer as cells. -/
def tmR (x : Tm) : List Value := [.int .i64 x.2.1, .int .i64 x.2.2, .int .u64 x.1]
@[reducible] def tmRBox (x : Tm) : Obj := .cells #[.int .i64 x.2.1, .int .i64 x.2.2, .int .u64 x.1] 110
def RL (h : List Tm) : List Value := h.flatMap tmR
theorem RL_length (h : List Tm) : (RL h).length = h.length * 3 := flat_length tmR 3 (fun _ => rfl) h
theorem RL_at {h : List Tm} {i : Nat} (hi : i < h.length) : (RL h)[i * 3]? = some (.int .i64 (at' h i).2.1) ∧ (RL h)[i * 3 + 1]? = some (.int .i64 (at' h i).2.2) ∧ (RL h)[i * 3 + 2]? = some (.int .u64 (at' h i).1) :=
  ⟨flat_at tmR 3 (by decide) (fun _ => rfl) h i 0 (by decide) (at_get hi), flat_at tmR 3 (by decide) (fun _ => rfl) h i 1 (by decide) (at_get hi), flat_at tmR 3 (by decide) (fun _ => rfl) h i 2 (by decide) (at_get hi)⟩
theorem RL_append (a b : List Tm) : RL (a ++ b) = RL a ++ RL b := by simp [RL]
theorem one_R (h : List Tm) : ∀ u ∈ RL h, u.oneCell' = true := by
  intro u hu
  simp only [RL, List.mem_flatMap] at hu
  obtain ⟨x, _, hx⟩ := hu
  simp only [tmR, List.mem_cons, List.not_mem_nil, or_false] at hx
  rcases hx with rfl | rfl | rfl <;> rfl
theorem RL_drop : ∀ (h : List Tm) (m : Nat), RL (h.drop m) = (RL h).drop (m * 3)
  | [], m => by simp [RL]
  | a :: h, 0 => by simp [RL]
  | a :: h, m + 1 => by
    have ih := RL_drop h m
    simp only [RL, List.drop_succ_cons, List.flatMap_cons] at ih ⊢
    rw [ih]
    simp [tmR, show (m + 1) * 3 = m * 3 + 1 + 1 + 1 by omega]
theorem RL_take : ∀ (h : List Tm) (m : Nat), RL (h.take m) = (RL h).take (m * 3)
  | [], m => by simp [RL]
  | a :: h, 0 => by simp [RL]
  | a :: h, m + 1 => by
    have ih := RL_take h m
    simp only [RL, List.take_succ_cons, List.flatMap_cons] at ih ⊢
    rw [ih]
    simp [tmR, show (m + 1) * 3 = m * 3 + 1 + 1 + 1 by omega]

theorem info_tr : (Try.prog.info? 110).map (fun i => (i.zero, i.size, i.bytes)) = some (some (.agg #[.int .i64 0, .int .i64 0, .int .u64 0]), 3, 24) := by kernel_rfl

/-- A block that is the struct of plain timers. -/
def RB (T : Nat) (last : Int) (v : Value) (W : World) : Prop := W.heap[T]? = some (.cells #[v, .int .i64 last] 58)
theorem RB.cell {T : Nat} {last : Int} {v : Value} {W : World} (h : RB T last v W) : W.cell? ⟨T, 0, none⟩ = some v ∧ W.cell? ⟨T, 1, none⟩ = some (.int .i64 last) :=
  ⟨cell_of_row W T 0 _ _ _ h, cell_of_row W T 1 _ _ _ h⟩
theorem RB.free {T : Nat} {last : Int} {v : Value} {W : World} (h : RB T last v W) (i : Nat) : W.frozen? ⟨T, i, none⟩ = false := by
  unfold RB at h
  simp [World.frozen?, h]
theorem RB.lt {T : Nat} {last : Int} {v : Value} {W : World} (h : RB T last v W) : T < W.heap.size := (Array.getElem?_eq_some_iff.1 h).1
theorem RB.kept {T : Nat} {last : Int} {v : Value} {W W' : World} {r : Option Nat} (h : RB T last v W) (hg : W.grownBy W' r) (hr : some T ≠ r) : RB T last v W' := (hg.block T h.lt hr).trans h
theorem RB.alloc {T : Nat} {last : Int} {v : Value} {W : World} (h : RB T last v W) (o : Obj) : RB T last v (W.alloc o) := h.kept (World.grownBy_alloc W o none) (by simp)
theorem RB.drew {T : Nat} {last : Int} {v : Value} {W : World} (h : RB T last v W) : RB T last v W.drew := h
theorem RB.set {T : Nat} {last : Int} {v : Value} {W : World} (h : RB T last v W) (v' : Value) : RB T last v' (W.setCell ⟨T, 0, none⟩ v') := by
  unfold RB at h ⊢
  simp [World.setCell, Array.getElem?_modify, h]
theorem RB.set1 {T : Nat} {last : Int} {v : Value} {W : World} (h : RB T last v W) (l : Int) : RB T l v (W.setCell ⟨T, 1, none⟩ (.int .i64 l)) := by
  unfold RB at h ⊢
  simp [World.setCell, Array.getElem?_modify, h]

/-- Plain timers, laid in memory: the list A, in the slice v. -/
structure RR (base T : Nat) (last : Int) (A : List Tm) (v : Value) (W : World) : Prop where
  blk : RB T last v W
  row : W.ownsRow base 110 3 v A.length (RL A)
  ok : ∀ x ∈ A, TOk x
  bT : base ≤ T
theorem RR.shape {base T : Nat} {last : Int} {A : List Tm} {v : Value} {W : World} (r : RR base T last A v W) (h0 : 0 < A.length) : ∃ g cap, v = .slice (some ⟨g, 0, none⟩) A.length cap ∧ base ≤ g := row_shape' r.row h0
theorem RR.apart {base T : Nat} {last : Int} {A : List Tm} {v : Value} {W : World} (r : RR base T last A v W) : some T ≠ v.ownBlock := by
  have hb := r.blk
  intro e
  rcases r.row.2 with ⟨rfl, _⟩ | ⟨g, cap, cur, rfl, _, hg, _⟩
  · simp [Value.ownBlock] at e
  · simp [Value.ownBlock] at e
    subst e
    unfold RB at hb
    rw [hb] at hg
    simp at hg
theorem row_lower {W : World} {base base' e size n : Nat} {v : Value} {xs : List Value} (h : W.ownsRow base e size v n xs) (hb : base' ≤ base) : W.ownsRow base' e size v n xs := by
  refine ⟨h.1, ?_⟩
  rcases h.2 with h0 | ⟨g, cap, cur, hc, k1, k2⟩
  · exact .inl h0
  · exact .inr ⟨g, cap, cur, hc, Nat.le_trans hb k1, k2⟩
theorem cells3_newR (W : World) (x : Tm) : ∀ (j : Nat) (u : Value), (tmR x)[j]? = some u → (W.alloc (tmRBox x)).cell? ((⟨W.heap.size, 0, none⟩ : Addr).add j) = some u := by
  intro j u hj
  have hh := heap_alloc_new W (tmRBox x)
  match j, hj with
  | 0, hj => exact (cell_of_row _ _ 0 _ _ _ hh).trans hj
  | 1, hj => exact (cell_of_row _ _ 1 _ _ _ hh).trans hj
  | 2, hj => exact (cell_of_row _ _ 2 _ _ _ hh).trans hj
  | j + 3, hj => simp [tmR] at hj
theorem one3R (x : Tm) : ∀ u ∈ tmR x, u.oneCell' = true := by
  intro u hu
  simp only [tmR, List.mem_cons, List.not_mem_nil, or_false] at hu
  rcases hu with rfl | rfl | rfl <;> rfl

set_option maxRecDepth 100000 in
set_option maxHeartbeats 4000000 in
theorem rAdd_any (base T : Nat) (last : Int) (h : List Tm) (v : Value) (w : World) (r : RR base T last h v w) (hn : h.length ≤ 900000) (l0 : 0 ≤ last) (l1 : last ≤ 1000000) (tm what : Int) (a0 : 0 ≤ tm ∧ tm < 18446744073709551616) (b0 : I64 what) (hbs : base ≤ w.heap.size) :
    Calls Try.prog 25 #[.pointer (some ⟨T, 0, none⟩), .int .u64 tm, .int .i64 what] w fun e w' => e = .returned (.int .i64 (last + 1)) ∧ ∃ v', RR base T (last + 1) (h ++ [(tm, last + 1, what)]) v' w' ∧ Fr T T v w w' ∧ (v'.ownBlock = v.ownBlock ∨ ∀ k, v'.ownBlock = some k → w.heap.size ≤ k) := by
  obtain ⟨i0, hi, hz0, hz1, hz2⟩ := info_parts info_tr
  obtain ⟨c0, c1⟩ := r.blk.cell
  have ft := r.blk.free
  have hT := r.blk.lt
  have hap := r.apart
  have hg2 : w.grownBy (w.setCell ⟨T, 1, none⟩ (.int .i64 (last + 1))) (some T) := grown_st (grown_rfl _ _) 1 _
  have hBA := r.blk.set1 (last + 1)
  have hrowA := r.row.kept hg2 (.inr (Ne.symm hap))
  have hFA := Fr.grown (T := T) (M := T) (v := v) hg2 (.inr (.inl rfl))
  have hsz : w.heap.size ≤ (w.setCell ⟨T, 1, none⟩ (.int .i64 (last + 1))).heap.size := hg2.size
  have hok : ∀ x ∈ h ++ [(tm, last + 1, what)], TOk x := by
    intro x hx
    rcases List.mem_append.1 hx with hx | hx
    · exact r.ok x hx
    · rw [List.mem_singleton] at hx
      subst hx
      exact ⟨a0, by unfold I64; dsimp only; omega, b0⟩
  have hbT := r.bT
  have hll : (h ++ [(tm, last + 1, what)]).length = h.length + 1 := by rw [List.length_append, List.length_singleton]
  have hTC : RL (h ++ [(tm, last + 1, what)]) = RL h ++ tmR (tm, last + 1, what) := by
    rw [RL_append]
    rfl
  obtain ⟨ao, c, hv, _⟩ := row_form r.row
  clear r hg2
  subst hv
  go_enter Try.func25, Try.ntmps25
  go_wp2_with fail
  generalize World.setCell _ _ _ = A at hBA hrowA hFA hsz ⊢
  clear c0 c1 ft
  obtain ⟨b0', b1⟩ := hBA.cell
  have ft := hBA.free
  have haT := fun o => (hBA.alloc o).cell.1
  have haL := fun o => (hBA.alloc o).cell.2
  have hk1 : Hid (h.length + 1 ≤ maxLen) := by show _ ≤ _; unfold maxLen; omega
  have hk2 : Hid ((h.length + 1) * 24 ≤ 140737488355328) := by show _ ≤ _; omega
  have hbA : Hid (∀ o : Obj, base ≤ (A.alloc o).drew.heap.size) := by
    intro o
    show base ≤ (A.alloc o).heap.size
    rw [World.size_alloc]
    omega
  have hTne : Hid (some T ≠ (Value.slice ao h.length c).ownBlock) := hap
  go_region_law (refine step_append_at rfl (.tmp 18) (.tmp 26) 56 rfl base 110 i0 (.agg #[.int .i64 0, .int .i64 0, .int .u64 0]) 3 24 Try.underlying56 hi hz0 hz1 hz2 rfl (by decide) (.slice ao h.length c) h.length (RL h) (by simp [Act.eval]) (hrowA.alloc _).drew ⟨_, 0, none⟩ 1 1 (tmR (tm, last + 1, what)) (by simp [Act.eval]) rfl (cells3_newR _ _) (one3R _) hk1.out hk2.out (hbA.out _) ?_; intro v7 w7 ho7 hg7 hloc; obtain ⟨g7, c7, rfl, hg7b⟩ := row_shape' ho7 (Nat.succ_pos _); have hB7 := (hBA.alloc (tmRBox (tm, last + 1, what))).drew.kept hg7 hTne.out; have hc7 := hB7.cell.1; have hf7 := hB7.free 0)
  all_goals
    have hloc' : (Value.slice (some ⟨g7, 0, none⟩) (h.length + 1) c7).ownBlock = (Value.slice ao h.length c).ownBlock ∨ ∀ k, (Value.slice (some ⟨g7, 0, none⟩) (h.length + 1) c7).ownBlock = some k → w.heap.size ≤ k := by
      rcases hloc with e | e
      · exact .inl e
      · refine .inr fun k hk => ?_
        rw [e] at hk
        cases hk
        exact Nat.le_trans hsz (by show A.heap.size ≤ (A.alloc _).heap.size; rw [World.size_alloc]; omega)
    have hgo : A.grownBy (A.alloc (tmRBox (tm, last + 1, what))).drew none := grown_dr (World.grownBy_alloc A _ none)
    have hF7 := (hFA.trans (Fr.grown (T := T) (M := T) (v := Value.slice ao h.length c) hgo (.inl rfl)) (.inl rfl)).trans (Fr.grown (T := T) (M := T) (v := Value.slice ao h.length c) hg7 (.inr (.inr (.inr rfl)))) (.inl rfl)
    have hB8 := hB7.set (.slice (some ⟨g7, 0, none⟩) (h.length + 1) c7)
    have hg8 : w7.grownBy (w7.setCell ⟨T, 0, none⟩ (.slice (some ⟨g7, 0, none⟩) (h.length + 1) c7)) (some T) := grown_st (grown_rfl _ _) 0 _
    have hTg7 : T ≠ g7 := by
      rintro rfl
      rcases ho7.2 with ⟨he, _⟩ | ⟨_, _, _, he, _, hh, _⟩
      · cases he
      · cases he
        unfold RB at hB7
        rw [hB7] at hh
        simp at hh
    have ho8 := ho7.kept hg8 (.inr (by simp [Value.ownBlock]; exact fun e => hTg7 e.symm))
    have hF8 := hF7.trans (Fr.grown (T := T) (M := T) (v := Value.slice ao h.length c) hg8 (.inr (.inl rfl))) (.inl rfl)
    clear hc7 hf7 hB7 ho7 hg7 hgo hF7 hg8 haT haL b0' b1 ft hBA hrowA hFA hloc
    generalize World.setCell _ _ _ = w8 at hB8 ho8 hF8 ⊢
    obtain ⟨b0', b1⟩ := hB8.cell
    have r9 : RR base T (last + 1) (h ++ [(tm, last + 1, what)]) (.slice (some ⟨g7, 0, none⟩) (h.length + 1) c7) w8 := by
      refine ⟨hB8, ?_, hok, hbT⟩
      rw [hll, hTC]
      exact ho8
    clear hB8 ho8
    go_wp2
    go_ret
    exact ⟨rfl, _, r9, hF8, hloc'⟩
end Go.Proofs.Ytjkjepoeiabpiaa
