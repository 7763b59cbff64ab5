import Derived.Test.YtakaadcpaeiccabGreatD1
import Derived.Laws.IdiomStrings
namespace Go.Proofs.YtakaadcpaeiccabGreat
open Go.RowKit

theorem conv_rest {W : World} {v : Value} {xs : List Int} (h : RestV W v xs) : (convert 58 9 v).run Tryz.prog W = .ok (.string (strOfNums xs)) W := by
  rcases h.2 with ⟨rfl, rfl⟩ | ⟨b, o, c, rfl, _, _, h3⟩
  · exact run_convert_bytes_nil (P := Tryz.prog) W 58 5 Tryz.underlying58 Tryz.underlying5 0 0 9 Tryz.underlying9
  · refine run_convert_bytes_arg (P := Tryz.prog) W 58 5 Tryz.underlying58 Tryz.underlying5 b o xs.length c xs rfl ?_ 9 Tryz.underlying9
    intro i hi
    rw [h3 i xs[i] (List.getElem?_eq_getElem hi)]
    simp [hi]

theorem b4_b {n : Int} (h0 : 0 ≤ n) (h1 : n < 4294967296) : ∀ x ∈ b4 n, 0 ≤ x ∧ x ≤ 255 := by
  intro x hx
  simp only [b4, List.mem_cons, List.not_mem_nil, or_false] at hx
  rcases hx with rfl | rfl | rfl | rfl <;> omega
theorem strNums_b (s : ByteArray) : ∀ x ∈ strNums s, 0 ≤ x ∧ x ≤ 255 := by
  intro x hx
  simp only [strNums, List.mem_map] at hx
  obtain ⟨b, _, rfl⟩ := hx
  have := b.toNat_lt
  omega
theorem rest_row {W : World} {base : Nat} {v : Value} {xs : List Int} (h : W.ownsRow base 5 1 v xs.length (U xs)) (hb : ∀ x ∈ xs, 0 ≤ x ∧ x ≤ 255) : RestV W v xs := by
  refine ⟨hb, ?_⟩
  rcases id h.2 with ⟨rfl, h0⟩ | ⟨g, cap, cur, rfl, _, _, h1, h2, _⟩
  · exact .inl ⟨rfl, List.eq_nil_of_length_eq_zero h0⟩
  · refine .inr ⟨g, 0, cap, rfl, h1, by unfold maxLen at h2; omega, fun j x hx => ?_⟩
    have hj : j < xs.length := by
      rcases Nat.lt_or_ge j xs.length with h | h
      · exact h
      · rw [List.getElem?_eq_none h] at hx; cases hx
    rw [Nat.zero_add, h.cellAt j (by omega)]
    simp [U, hx]

theorem rest_cut {W : World} {g n c : Nat} {xs : List Int} (h : RestV W (.slice (some ⟨g, 0, none⟩) xs.length c) xs) (hn : n ≤ xs.length) : RestV W (.slice (some ⟨g, 0, none⟩) n c) (xs.take n) := by
  rcases h.2 with ⟨h, _⟩ | ⟨b, o, c', he, h1, h2, h3⟩
  · cases h
  · cases he
    exact (RestV.part h.1 h1 h2 h3 n hn).1

theorem rest_new (s : ByteArray) (hs : s.size ≤ 65536) (w : World) (fz : Nat × Nat) : RestV (w.drew.alloc (.cells (bytesRow s (grownCap w s.size 0 5)) 5 fz)) (.slice (some ⟨w.heap.size, 0, none⟩) s.size (grownCap w s.size 0 5)) (strNums s) := by
  refine ⟨strNums_b s, .inr ⟨w.heap.size, 0, _, by rw [strNums_length], by rw [strNums_length]; exact grownCap_ge _ _ _ _, ?_, fun j x hx => ?_⟩⟩
  · exact grownCap_le_maxLen w s.size 0 _ (by unfold maxLen; omega)
  · have hj : j < s.size := by
      rcases Nat.lt_or_ge j s.size with h | h
      · exact h
      · rw [List.getElem?_eq_none (by rw [strNums_length]; exact h)] at hx; cases hx
    have hh := heap_alloc_new w.drew (.cells (bytesRow s (grownCap w s.size 0 5)) 5 fz)
    rw [Nat.zero_add]
    refine (cell_of_row _ _ j _ _ _ hh).trans ?_
    unfold bytesRow
    rw [Array.getElem?_append_left (by simpa using hj)]
    simp only [strNums, List.getElem?_map] at hx
    simp only [Array.getElem?_map]
    cases hq : s.data[j]? with
    | none => simp [hq] at hx
    | some b =>
      simp [hq] at hx
      subst hx
      rfl

theorem src_rest {W : World} {v : Value} {xs : List Int} (h : RestV W v xs) : Src Tryz.prog 1 58 v xs.length (U xs) W := by
  rcases h.2 with ⟨rfl, rfl⟩ | ⟨b, o, c, rfl, _, _, h3⟩
  · exact Src.ofNil W Tryz.underlying58 0
  · refine Src.ofSlice W Tryz.underlying58 _ _ c _ (by simp [U]) ?_ ?_
    · intro j u hj
      simp only [U, List.getElem?_map] at hj
      cases hx : xs[j]? with
      | none => simp [hx] at hj
      | some x =>
        simp [hx] at hj
        subst hj
        have h := h3 j x hx
        cases j with
        | zero => exact h
        | succ j => exact h
    · intro u hu
      simp only [U, List.mem_map] at hu
      obtain ⟨x, _, rfl⟩ := hu
      rfl

/-- A row of bytes of which the first n may be written. -/
def BRow (g n : Nat) (W : World) : Prop := ∃ (cur : Array Value) (lo hi : Nat), W.heap[g]? = some (.cells cur 5 (lo, hi)) ∧ n ≤ lo ∧ n ≤ cur.size
theorem BRow.frozen {g n j : Nat} {W : World} (h : BRow g n W) (hj : j < n) : W.frozen? ⟨g, j, none⟩ = false := by
  obtain ⟨cur, lo, hi, h1, h2, _⟩ := h
  simp [World.frozen?, h1]
  omega
theorem BRow.cell {g n j : Nat} {W : World} (h : BRow g n W) (hj : j < n) : ∃ u, W.cell? ⟨g, j, none⟩ = some u := by
  obtain ⟨cur, lo, hi, h1, _, h3⟩ := h
  refine ⟨cur[j], ?_⟩
  rw [cell_of_row W g j cur _ _ h1]
  exact Array.getElem?_eq_getElem (by omega)
theorem BRow.set {g n : Nat} {W : World} (h : BRow g n W) (j : Nat) (v : Value) : BRow g n (W.setCell ⟨g, j, none⟩ v) := by
  obtain ⟨cur, lo, hi, h1, h2, h3⟩ := h
  refine ⟨cur.setIfInBounds j v, lo, hi, ?_, h2, by simpa using h3⟩
  simp [World.setCell, Array.getElem?_modify, h1]
theorem BRow.block {g n : Nat} {W W' : World} (h : BRow g n W) (e : W'.heap[g]? = W.heap[g]?) : BRow g n W' := by
  obtain ⟨cur, lo, hi, h1, h2, h3⟩ := h
  exact ⟨cur, lo, hi, e.trans h1, h2, h3⟩
theorem BRow.lt {g n : Nat} {W : World} (h : BRow g n W) : g < W.heap.size := by
  obtain ⟨cur, lo, hi, h1, _, _⟩ := h
  exact (Array.getElem?_eq_some_iff.1 h1).1
theorem grown_self (A : World) (r : Option Nat) : A.grownBy A r := ⟨rfl, rfl, rfl, Nat.le_refl _, fun _ _ _ => rfl⟩
theorem grown_cellOf {A B : World} {g : Nat} (h : A.grownBy B (some g)) (j : Nat) (v : Value) : A.grownBy (B.setCell ⟨g, j, none⟩ v) (some g) :=
  ⟨h.os, h.tape, h.output, by simpa using h.size, fun i hi hne => (Below.heap_setCell B ⟨g, j, none⟩ v i (fun e => hne (by rw [e]))).trans (h.block i hi hne)⟩

theorem RestV.kept {W W' : World} {v : Value} {xs : List Int} (h : RestV W v xs) (hb : Below W.heap.size W W') : RestV W' v xs := by
  refine ⟨h.1, ?_⟩
  rcases h.2 with h | ⟨b, o', c, rfl, k1, k2, k3⟩
  · exact .inl h
  · exact .inr ⟨b, o', c, rfl, k1, k2, fun j x hx => (hb.cell (World.block_lt_of_cell? W _ (k3 j x hx))).trans (k3 j x hx)⟩

theorem Rd.kept {R : Nat} {xs : List Int} {W W' : World} (h : Rd R xs W) (hb : Below W.heap.size W W') : Rd R xs W' := by
  obtain ⟨v, h1, h2, hx, h3⟩ := h
  have hlt := World.block_lt_of_cell? W _ h1
  refine ⟨v, (hb.cell hlt).trans h1, (hb.frozen hlt).trans h2, hx, ?_⟩
  rcases h3 with h | ⟨b, o', c, rfl, k1, k2, k3⟩
  · exact .inl h
  · exact .inr ⟨b, o', c, rfl, k1, k2, fun j x hx => (hb.cell (World.block_lt_of_cell? W _ (k3 j x hx))).trans (k3 j x hx)⟩
end Go.Proofs.YtakaadcpaeiccabGreat
