import Derived.Test.YtjkjepoeiabpiaaQ2
namespace Go.Proofs.Ytjkjepoeiabpiaa
open Go.RowKit Go.Maps
open Hp

/-- The map tells where each stands. -/
def PI (h : List Tm) (f : Int → Option Nat) : Prop :=
  (∀ i x, h[i]? = some x → f x.2.1 = some i) ∧ ∀ k i, f k = some i → ∃ x, h[i]? = some x ∧ x.2.1 = k
theorem PI.sw {h : List Tm} {f : Int → Option Nat} (p : PI h f) {i j : Nat} (hi : i < h.length) (hj : j < h.length) :
    PI (sw h i j) (upd (upd f (at' h j).2.1 (some i)) (at' h i).2.1 (some j)) := by
  have pi := p.1 i _ (at_get hi)
  have pj := p.1 j _ (at_get hj)
  have hs := at_sw hi hj
  constructor
  · intro k x hx
    have hk : k < h.length := by
      rcases Nat.lt_or_ge k (Hp.sw h i j).length with a | a
      · rw [sw_length] at a; exact a
      · rw [List.getElem?_eq_none a] at hx; cases hx
    have e := at_some hx
    rw [hs] at e
    by_cases h1 : k = j
    · rw [if_pos h1] at e
      rw [← e, h1]
      simp [upd]
    · rw [if_neg h1] at e
      by_cases h2 : k = i
      · rw [if_pos h2] at e
        rw [← e, h2]
        unfold upd
        by_cases h3 : (at' h j).2.1 = (at' h i).2.1
        · rw [h3, pi] at pj
          cases pj
          exact absurd h2 h1
        · rw [if_neg h3, if_pos rfl]
      · rw [if_neg h2] at e
        have pk := p.1 k _ (at_get hk)
        rw [e] at pk
        unfold upd
        by_cases h3 : x.2.1 = (at' h i).2.1
        · rw [h3, pi] at pk
          cases pk
          exact absurd rfl h2
        · rw [if_neg h3]
          by_cases h4 : x.2.1 = (at' h j).2.1
          · rw [h4, pj] at pk
            cases pk
            exact absurd rfl h1
          · rw [if_neg h4, pk]
  · intro k n hn
    unfold upd at hn
    have hl : (Hp.sw h i j).length = h.length := sw_length h i j
    by_cases h1 : k = (at' h i).2.1
    · rw [if_pos h1] at hn
      cases hn
      exact ⟨_, at_get (by omega), by rw [hs, if_pos rfl, h1]⟩
    · rw [if_neg h1] at hn
      by_cases h2 : k = (at' h j).2.1
      · rw [if_pos h2] at hn
        cases hn
        refine ⟨_, at_get (by omega), ?_⟩
        rw [hs, if_pos rfl]
        by_cases h3 : i = j
        · subst h3
          exact absurd h2 h1
        · rw [if_neg h3, h2]
      · rw [if_neg h2] at hn
        obtain ⟨x, hx, hk⟩ := p.2 k n hn
        have hnl : n < h.length := by
          rcases Nat.lt_or_ge n h.length with a | a
          · exact a
          · rw [List.getElem?_eq_none a] at hx; cases hx
        refine ⟨x, ?_, hk⟩
        rw [at_get (by omega), hs]
        have e := at_some hx
        rw [if_neg (by rintro rfl; rw [e] at h2; exact h2 hk.symm), if_neg (by rintro rfl; rw [e] at h1; exact h1 hk.symm), e]
theorem PI.add {h : List Tm} {f : Int → Option Nat} (p : PI h f) {x : Tm} (hx : f x.2.1 = none) : PI (h ++ [x]) (upd f x.2.1 (some h.length)) := by
  constructor
  · intro i y hy
    unfold upd
    by_cases hi : i < h.length
    · rw [List.getElem?_append_left hi] at hy
      have := p.1 i y hy
      rw [if_neg (fun e => by rw [e, hx] at this; cases this), this]
    · rw [List.getElem?_append_right (by omega)] at hy
      have : i - h.length = 0 := by
        rcases Nat.eq_zero_or_pos (i - h.length) with a | a
        · exact a
        · rw [List.getElem?_eq_none (by simp; omega)] at hy; cases hy
      rw [this] at hy
      simp at hy
      subst hy
      rw [if_pos rfl]
      congr 1
      omega
  · intro k i hk
    unfold upd at hk
    by_cases e : k = x.2.1
    · rw [if_pos e] at hk
      cases hk
      exact ⟨x, by simp, e.symm⟩
    · rw [if_neg e] at hk
      obtain ⟨y, hy, he⟩ := p.2 k i hk
      have hi : i < h.length := by
        rcases Nat.lt_or_ge i h.length with a | a
        · exact a
        · rw [List.getElem?_eq_none a] at hy; cases hy
      exact ⟨y, by rw [List.getElem?_append_left hi]; exact hy, he⟩
theorem PI.cut {h : List Tm} {f : Int → Option Nat} (p : PI h f) {n : Nat} (hn : h.length = n + 1) : PI (h.take n) (upd f (at' h n).2.1 none) := by
  have pn := p.1 n _ (at_get (by omega))
  constructor
  · intro i x hx
    rw [List.getElem?_take] at hx
    split at hx
    · rename_i hi
      have pi := p.1 i x hx
      unfold upd
      rw [if_neg (fun e => by rw [e, pn] at pi; cases pi; omega), pi]
    · cases hx
  · intro k i hk
    unfold upd at hk
    split at hk
    · cases hk
    · rename_i e
      obtain ⟨x, hx, he⟩ := p.2 k i hk
      refine ⟨x, ?_, he⟩
      rw [List.getElem?_take]
      split
      · exact hx
      · rename_i hi
        have hil : i < h.length := by
          rcases Nat.lt_or_ge i h.length with a | a
          · exact a
          · rw [List.getElem?_eq_none a] at hx; cases hx
        obtain rfl : i = n := by omega
        rw [at_some hx] at e
        exact absurd he.symm e

/-- Timers as cells. -/
def tmC (x : Tm) : List Value := [.int .u64 x.1, .int .i64 x.2.1, .int .i64 x.2.2]
def TC (h : List Tm) : List Value := h.flatMap tmC
theorem TC_length (h : List Tm) : (TC h).length = h.length * 3 := flat_length tmC 3 (fun _ => rfl) h
theorem TC_at {h : List Tm} {i : Nat} (hi : i < h.length) : (TC h)[i * 3]? = some (.int .u64 (at' h i).1) ∧ (TC h)[i * 3 + 1]? = some (.int .i64 (at' h i).2.1) ∧ (TC h)[i * 3 + 2]? = some (.int .i64 (at' h i).2.2) :=
  ⟨flat_at tmC 3 (by decide) (fun _ => rfl) h i 0 (by decide) (at_get hi), flat_at tmC 3 (by decide) (fun _ => rfl) h i 1 (by decide) (at_get hi), flat_at tmC 3 (by decide) (fun _ => rfl) h i 2 (by decide) (at_get hi)⟩
theorem TC_append (a b : List Tm) : TC (a ++ b) = TC a ++ TC b := by simp [TC]

/-- What a timer's numbers may be. -/
def TOk (x : Tm) : Prop := (0 ≤ x.1 ∧ x.1 < 18446744073709551616) ∧ I64 x.2.1 ∧ I64 x.2.2

/-- A block that is the struct of timers. -/
def TBk (T M : Nat) (last : Int) (v : Value) (W : World) : Prop := W.heap[T]? = some (.cells #[v, .map (some M), .int .i64 last] 105)
theorem TBk.cell {T M : Nat} {last : Int} {v : Value} {W : World} (h : TBk T M last v W) :
    W.cell? ⟨T, 0, none⟩ = some v ∧ W.cell? ⟨T, 1, none⟩ = some (.map (some M)) ∧ W.cell? ⟨T, 2, none⟩ = some (.int .i64 last) :=
  ⟨cell_of_row W T 0 _ _ _ h, cell_of_row W T 1 _ _ _ h, cell_of_row W T 2 _ _ _ h⟩
theorem TBk.free {T M : Nat} {last : Int} {v : Value} {W : World} (h : TBk T M last v W) (i : Nat) : W.frozen? ⟨T, i, none⟩ = false := by
  unfold TBk at h
  simp [World.frozen?, h]
theorem TBk.lt {T M : Nat} {last : Int} {v : Value} {W : World} (h : TBk T M last v W) : T < W.heap.size := (Array.getElem?_eq_some_iff.1 h).1

/-- Timers, laid in memory: the heap h, in the slice v. -/
structure TR (base T M : Nat) (last : Int) (h : List Tm) (v : Value) (W : World) : Prop where
  blk : TBk T M last v W
  row : W.ownsRow base 107 3 v h.length (TC h)
  map : ∃ f, MapI W M f h.length ∧ PI h f
  ok : ∀ x ∈ h, TOk x
  bT : base ≤ T
  bM : base ≤ M
theorem TR.shape {base T M : Nat} {last : Int} {h : List Tm} {v : Value} {W : World} (r : TR base T M last h v W) (h0 : 0 < h.length) : ∃ g cap, v = .slice (some ⟨g, 0, none⟩) h.length cap ∧ base ≤ g := by
  refine row_shape' r.row h0
/-- The blocks of timers are three. -/
theorem TR.apart {base T M : Nat} {last : Int} {h : List Tm} {v : Value} {W : World} (r : TR base T M last h v W) : T ≠ M ∧ some T ≠ v.ownBlock ∧ some M ≠ v.ownBlock := by
  have hb := r.blk
  obtain ⟨f, ⟨D, ⟨es, clock, hm, _⟩, _⟩, _⟩ := r.map
  refine ⟨?_, ?_, ?_⟩
  · rintro rfl
    unfold TBk at hb
    rw [hb] at hm
    cases hm
  · intro e
    rcases r.row.2 with ⟨rfl, _⟩ | ⟨g, cap, cur, rfl, _, hg, _⟩
    · simp [Value.ownBlock] at e
    · simp [Value.ownBlock] at e
      subst e
      unfold TBk at hb
      rw [hb] at hg
      simp at hg
  · intro e
    rcases r.row.2 with ⟨rfl, _⟩ | ⟨g, cap, cur, rfl, _, hg, _⟩
    · simp [Value.ownBlock] at e
    · simp [Value.ownBlock] at e
      subst e
      rw [hm] at hg
      cases hg

/-- What a call on timers may turn. -/
structure Fr (T M : Nat) (v : Value) (W W' : World) : Prop where
  os : W'.os = W.os
  tape : W'.tape = W.tape
  output : W'.output = W.output
  size : W.heap.size ≤ W'.heap.size
  block : ∀ k, k < W.heap.size → k ≠ T → k ≠ M → some k ≠ v.ownBlock → W'.heap[k]? = W.heap[k]?
theorem Fr.refl (T M : Nat) (v : Value) (W : World) : Fr T M v W W := ⟨rfl, rfl, rfl, Nat.le_refl _, fun _ _ _ _ _ => rfl⟩
theorem Fr.trans {T M : Nat} {v v' : Value} {W W1 W2 : World} (a : Fr T M v W W1) (b : Fr T M v' W1 W2) (hv : v'.ownBlock = v.ownBlock ∨ ∀ k, v'.ownBlock = some k → W.heap.size ≤ k) : Fr T M v W W2 := by
  refine ⟨b.os.trans a.os, b.tape.trans a.tape, b.output.trans a.output, Nat.le_trans a.size b.size, fun k hk h1 h2 h3 => ?_⟩
  rw [b.block k (Nat.lt_of_lt_of_le hk a.size) h1 h2 ?_]
  · exact a.block k hk h1 h2 h3
  · rcases hv with hv | hv
    · rw [hv]; exact h3
    · intro e
      have := hv k e.symm
      omega
theorem Fr.grown {T M : Nat} {v : Value} {W W' : World} {r : Option Nat} (h : W.grownBy W' r) (hr : r = none ∨ r = some T ∨ r = some M ∨ r = v.ownBlock) : Fr T M v W W' := by
  refine ⟨h.os, h.tape, h.output, h.size, fun k hk h1 h2 h3 => h.block k hk ?_⟩
  rcases hr with rfl | rfl | rfl | rfl
  · simp
  · simpa using h1
  · simpa using h2
  · exact h3
theorem Fr.below {base T M : Nat} {v : Value} {W W' : World} (h : Fr T M v W W') (hT : base ≤ T) (hM : base ≤ M) (hv : ∀ k, v.ownBlock = some k → base ≤ k) (hb : base ≤ W.heap.size) : Below base W W' :=
  ⟨h.os, h.tape, h.output, h.size, fun k hk => h.block k (by omega) (by omega) (by omega) (fun e => by have := hv k e.symm; omega)⟩
end Go.Proofs.Ytjkjepoeiabpiaa
