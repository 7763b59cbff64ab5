import Derived.Test.YtjkjepoeiabpiaaQ7
import Derived.Test.YtjkjepoeiabpiaaL3
namespace Go.Proofs.Ytjkjepoeiabpiaa
open Go.RowKit Go.Maps
open Hp

set_option maxHeartbeats 1000000 in
theorem NewTimers_any (w : World) :
    Calls Try.prog 23 #[] w fun e w' => e = .returned (.pointer (some ⟨w.heap.size + 1, 0, none⟩)) ∧ Below w.heap.size w w' ∧ TR w.heap.size (w.heap.size + 1) w.heap.size 0 [] (.slice none 0 0) w' := by
  have hmm := @run_makeMap Try.prog
  have hm := MapI.made w
  have hB : Below w.heap.size w ((w.alloc (.map #[] 0)).alloc (.cells #[.slice none 0 0, .map (some w.heap.size), .int .i64 0] 105)) := ((Below.refl _ _).alloc (Nat.le_refl _) _).alloc (by simp) _
  have hT : TBk (w.heap.size + 1) w.heap.size 0 (.slice none 0 0) ((w.alloc (.map #[] 0)).alloc (.cells #[.slice none 0 0, .map (some w.heap.size), .int .i64 0] 105)) := by
    have h := heap_alloc_new (w.alloc (.map #[] 0)) (.cells #[.slice none 0 0, .map (some w.heap.size), .int .i64 0] 105)
    rw [World.size_alloc] at h
    exact h
  have hm2 := hm.kept (World.grownBy_alloc (w.alloc (.map #[] 0)) (.cells #[.slice none 0 0, .map (some w.heap.size), .int .i64 0] 105) none) (by simp)
  go_enter Try.func23, Try.ntmps23
  go_wp2
  go_ret
  exact ⟨rfl, hB, hT, ⟨rfl, .inl ⟨rfl, rfl⟩⟩, ⟨_, hm2, ⟨fun i x hx => by simp at hx, fun k i hk => by cases hk⟩⟩, fun x hx => by simp at hx, Nat.le_succ _, Nat.le_refl _⟩

theorem Len_any (base T M : Nat) (last : Int) (h : List Tm) (v : Value) (w : World) (r : TR base T M last h v w) :
    Calls Try.prog 30 #[.pointer (some ⟨T, 0, none⟩)] w fun e w' => e = .returned (.int .i64 (h.length : Nat)) ∧ w' = w := by
  obtain ⟨ao, c, rfl, _⟩ := row_form r.row
  have c0 := r.blk.cell.1
  clear r
  go_enter Try.func30, Try.ntmps30
  go_wp2
  go_ret
  exact ⟨rfl, rfl⟩

theorem f_of {h : List Tm} {f : Int → Option Nat} (p : PI h f) {k : Int} (hk : ∀ x ∈ h, x.2.1 ≠ k) : f k = none := by
  cases e : f k with
  | none => rfl
  | some i =>
    obtain ⟨x, hx, he⟩ := p.2 k i e
    exact absurd he (hk x (List.mem_of_getElem? hx))

theorem TBk.set2 {T M : Nat} {last : Int} {v : Value} {W : World} (h : TBk T M last v W) (l : Int) : TBk T M l v (W.setCell ⟨T, 2, none⟩ (.int .i64 l)) := by
  unfold TBk at h ⊢
  simp [World.setCell, Array.getElem?_modify, h]
theorem TBk.alloc {T M : Nat} {last : Int} {v : Value} {W : World} (h : TBk T M last v W) (o : Obj) : TBk T M last v (W.alloc o) := h.kept (World.grownBy_alloc W o none) (by simp)
theorem TBk.drew {T M : Nat} {last : Int} {v : Value} {W : World} (h : TBk T M last v W) : TBk T M last v W.drew := h
theorem cells3_new (W : World) (x : Tm) : ∀ (j : Nat) (u : Value), (tmC x)[j]? = some u → (W.alloc (tmBox x)).cell? ((⟨W.heap.size, 0, none⟩ : Addr).add j) = some u := by
  intro j u hj
  have hh := heap_alloc_new W (tmBox x)
  match j, hj with
  | 0, hj => exact (cell_of_row _ _ 0 _ _ _ hh).trans hj
  | 1, hj => exact (cell_of_row _ _ 1 _ _ _ hh).trans hj
  | 2, hj => exact (cell_of_row _ _ 2 _ _ _ hh).trans hj
  | j + 3, hj => simp [tmC] at hj
theorem one3 (x : Tm) : ∀ u ∈ tmC x, u.oneCell' = true := by
  intro u hu
  simp only [tmC, List.mem_cons, List.not_mem_nil, or_false] at hu
  rcases hu with rfl | rfl | rfl <;> rfl

set_option maxRecDepth 100000 in
set_option maxHeartbeats 4000000 in
theorem Add_any (base T M : Nat) (last : Int) (h : List Tm) (v : Value) (w : World) (r : TR base T M last h v w) (hn : h.length ≤ 900000) (hb : Heap h) (l0 : 0 ≤ last) (l1 : last ≤ 1000000) (hid : ∀ x ∈ h, x.2.1 ≤ last) (tm what : Int) (a0 : 0 ≤ tm ∧ tm < 18446744073709551616) (b0 : I64 what) (hbs : base ≤ w.heap.size) :
    Calls Try.prog 24 #[.pointer (some ⟨T, 0, none⟩), .int .u64 tm, .int .i64 what] w fun e w' => e = .returned (.int .i64 (last + 1)) ∧ ∃ h' v', TR base T M (last + 1) h' v' w' ∧ Fr T M v w w' ∧ (v'.ownBlock = v.ownBlock ∨ ∀ k, v'.ownBlock = some k → w.heap.size ≤ k) ∧ h'.Perm (h ++ [(tm, last + 1, what)]) ∧ Heap h' := by
  obtain ⟨i0, hi, hz0, hz1, hz2⟩ := info_parts info_tm
  obtain ⟨c0, c1, c2⟩ := r.blk.cell
  have ft := r.blk.free
  have hT := r.blk.lt
  have hap := r.apart
  obtain ⟨f, hm, hp⟩ := r.map
  have hg2 : w.grownBy (w.setCell ⟨T, 2, none⟩ (.int .i64 (last + 1))) (some T) := grown_st (grown_rfl _ _) 2 _
  have hBA := r.blk.set2 (last + 1)
  have hrowA := r.row.kept hg2 (.inr (Ne.symm hap.2.1))
  have hmA := hm.kept hg2 (by simpa using hap.1.symm)
  have hFA := Fr.grown (T := T) (M := M) (v := v) hg2 (.inr (.inl rfl))
  have hsz : w.heap.size ≤ (w.setCell ⟨T, 2, none⟩ (.int .i64 (last + 1))).heap.size := hg2.size
  have hfn := f_of hp (k := last + 1) (fun x hx => by have := hid x hx; omega)
  have hpA := hp.add (x := (tm, last + 1, what)) hfn
  have hok : ∀ x ∈ h ++ [(tm, last + 1, what)], TOk x := by
    intro x hx
    rcases List.mem_append.1 hx with hx | hx
    · exact r.ok x hx
    · rw [List.mem_singleton] at hx
      subst hx
      exact ⟨a0, by unfold I64; dsimp only; omega, b0⟩
  have hbT := r.bT
  have hbM := r.bM
  have hBo := add_both hb (tm, last + 1, what)
  have hll : (h ++ [(tm, last + 1, what)]).length = h.length + 1 := by rw [List.length_append, List.length_singleton]
  have hTC : TC (h ++ [(tm, last + 1, what)]) = TC h ++ tmC (tm, last + 1, what) := by
    rw [TC_append]
    rfl
  obtain ⟨ao, c, hv, _⟩ := row_form r.row
  clear r hm hp hg2
  subst hv
  go_enter Try.func24, Try.ntmps24
  go_wp2_with fail
  generalize World.setCell _ _ _ = A at hBA hrowA hmA hFA hsz ⊢
  clear c0 c1 c2 ft
  obtain ⟨b0', b1, b2⟩ := hBA.cell
  have ft := hBA.free
  have haT := fun o => (hBA.alloc o).cell.1
  have haL := fun o => (hBA.alloc o).cell.2.2
  have hk1 : Hid (h.length + 1 ≤ maxLen) := by show _ ≤ _; unfold maxLen; omega
  have hk2 : Hid ((h.length + 1) * 24 ≤ 140737488355328) := by show _ ≤ _; omega
  have hbA : Hid (∀ o : Obj, base ≤ (A.alloc o).drew.heap.size) := by
    intro o
    show base ≤ (A.alloc o).heap.size
    rw [World.size_alloc]
    omega
  have hTne : Hid (some T ≠ (Value.slice ao h.length c).ownBlock) := hap.2.1
  go_region_law (refine step_append_at rfl (.tmp 24) (.tmp 32) 103 rfl base 107 i0 (.agg #[.int .u64 0, .int .i64 0, .int .i64 0]) 3 24 Try.underlying103 hi hz0 hz1 hz2 rfl (by decide) (.slice ao h.length c) h.length (TC h) (by simp [Act.eval]) (hrowA.alloc _).drew ⟨_, 0, none⟩ 1 1 (tmC (tm, last + 1, what)) (by simp [Act.eval]) rfl (cells3_new _ _) (one3 _) hk1.out hk2.out (hbA.out _) ?_; intro v7 w7 ho7 hg7 hloc; obtain ⟨g7, c7, rfl, hg7b⟩ := row_shape' ho7 (Nat.succ_pos _); have hB7 := (hBA.alloc (tmBox (tm, last + 1, what))).drew.kept hg7 hTne.out; have hc7 := hB7.cell.1; have hf7 := hB7.free 0)
  all_goals
    have hloc' : (Value.slice (some ⟨g7, 0, none⟩) (h.length + 1) c7).ownBlock = (Value.slice ao h.length c).ownBlock ∨ ∀ k, (Value.slice (some ⟨g7, 0, none⟩) (h.length + 1) c7).ownBlock = some k → w.heap.size ≤ k := by
      rcases hloc with e | e
      · exact .inl e
      · refine .inr fun k hk => ?_
        rw [e] at hk
        cases hk
        exact Nat.le_trans hsz (by show A.heap.size ≤ (A.alloc _).heap.size; rw [World.size_alloc]; omega)
    have hgo : A.grownBy (A.alloc (tmBox (tm, last + 1, what))).drew none := grown_dr (World.grownBy_alloc A _ none)
    have hmB := (hmA.kept hgo (by simp)).kept hg7 hap.2.2
    have hF7 := (hFA.trans (Fr.grown (T := T) (M := M) (v := Value.slice ao h.length c) hgo (.inl rfl)) (.inl rfl)).trans (Fr.grown (T := T) (M := M) (v := Value.slice ao h.length c) hg7 (.inr (.inr (.inr rfl)))) (.inl rfl)
    have hB8 := hB7.set (.slice (some ⟨g7, 0, none⟩) (h.length + 1) c7)
    have hg8 : w7.grownBy (w7.setCell ⟨T, 0, none⟩ (.slice (some ⟨g7, 0, none⟩) (h.length + 1) c7)) (some T) := grown_st (grown_rfl _ _) 0 _
    have hTg7 : T ≠ g7 := by
      rintro rfl
      rcases ho7.2 with ⟨he, _⟩ | ⟨_, _, _, he, _, hh, _⟩
      · cases he
      · cases he
        unfold TBk at hB7
        rw [hB7] at hh
        simp at hh
    have ho8 := ho7.kept hg8 (.inr (by simp [Value.ownBlock]; exact fun e => hTg7 e.symm))
    have hm8 := hmB.kept hg8 (by simpa using hap.1.symm)
    have hF8 := hF7.trans (Fr.grown (T := T) (M := M) (v := Value.slice ao h.length c) hg8 (.inr (.inl rfl))) (.inl rfl)
    clear hc7 hf7 hB7 ho7 hg7 hgo hmB hF7 hg8 haT haL b0' b1 b2 ft hBA hrowA hmA hFA hloc
    generalize World.setCell _ _ _ = w8 at hB8 ho8 hm8 hF8 ⊢
    obtain ⟨b0', b1, b2⟩ := hB8.cell
    have hhl : I64 ((h.length : Nat) : Int) := by unfold I64; omega
    have hll64 : I64 (last + 1) := by unfold I64; omega
    obtain ⟨w9, hr9, hm9, hg9⟩ := (show MapI w8.drew M f h.length from hm8).put (by unfold maxLen; omega) hll64 hhl
    go_wp2_with fail
    go_region
    have hg9' : w8.grownBy w9 (some M) := ⟨hg9.os, hg9.tape, hg9.output, hg9.size, hg9.block⟩
    rw [hfn] at hm9
    simp only [Option.isSome_none, Bool.false_eq_true, if_false] at hm9
    have hMg7 : M ≠ g7 := by
      rintro rfl
      rcases ho8.2 with ⟨he, _⟩ | ⟨_, _, _, he, _, hh, _⟩
      · cases he
      · cases he
        obtain ⟨D, ⟨es, clock, hmm, _⟩, _⟩ := hm8
        rw [hmm] at hh
        cases hh
    have r9 : TR base T M (last + 1) (h ++ [(tm, last + 1, what)]) (.slice (some ⟨g7, 0, none⟩) (h.length + 1) c7) w9 := by
      refine ⟨hB8.kept hg9' (by simpa using hap.1), ?_, ⟨_, ?_, hpA⟩, hok, hbT, hbM⟩
      · rw [hll, hTC]
        exact ho8.kept hg9' (.inr (by simp [Value.ownBlock]; exact fun e => hMg7 e.symm))
      · rw [hll]
        exact hm9
    have hF9 := hF8.trans (Fr.grown (T := T) (M := M) (v := Value.slice ao h.length c) hg9' (.inr (.inr (.inl rfl)))) (.inl rfl)
    clear hB8 ho8 hm8 hF8 hr9 hm9 hg9 hg9' b0' b1 b2 hpA
    go_wp2_with fail
    refine (rise_any base T M (last + 1) _ _ _ r9 h.length (by rw [hll]; omega) (by rw [hll]; omega) hBo).mono ?_
    rintro e w10 ⟨rfl, h10, r10, hF10, hp10, hD10⟩
    have hl10 : h10.length = h.length + 1 := by rw [hp10.length_eq]; exact hll
    have hH10 : Heap h10 := hD10.leaf (by omega)
    have hF11 := hF9.trans hF10 hloc'
    obtain ⟨b0', b1, b2⟩ := r10.blk.cell
    clear r9 hF9 hF10 hD10 hl10
    go_wp2
    go_ret
    exact ⟨rfl, h10, _, r10, hF11, hloc', hp10, hH10⟩
end Go.Proofs.Ytjkjepoeiabpiaa
