import Derived.Test.YtmahaccaglaldaaR4
import Derived.Test.YtmahaccaglaldaaG4
namespace Go.Proofs.Ytmahaccaglaldaa
open Go.RowKit

/-- A row of bytes of which the first n may be written. -/
def BRow (g n : Nat) (W : World) : Prop := ∃ (cur : Array Value) (lo hi : Nat), W.heap[g]? = some (.cells cur 5 (lo, hi)) ∧ n ≤ lo ∧ n ≤ cur.size
theorem BRow.frozen {g n j : Nat} {W : World} (h : BRow g n W) (hj : j < n) : W.frozen? ⟨g, j, none⟩ = false := by
  obtain ⟨cur, lo, hi, h1, h2, _⟩ := h
  simp [World.frozen?, h1]
  omega
theorem BRow.cell {g n j : Nat} {W : World} (h : BRow g n W) (hj : j < n) : ∃ u, W.cell? ⟨g, j, none⟩ = some u := by
  obtain ⟨cur, lo, hi, h1, _, h3⟩ := h
  refine ⟨cur[j], ?_⟩
  rw [cell_of_row W g j cur _ _ h1]
  exact Array.getElem?_eq_getElem (by omega)
theorem BRow.set {g n : Nat} {W : World} (h : BRow g n W) (j : Nat) (v : Value) : BRow g n (W.setCell ⟨g, j, none⟩ v) := by
  obtain ⟨cur, lo, hi, h1, h2, h3⟩ := h
  refine ⟨cur.setIfInBounds j v, lo, hi, ?_, h2, by simpa using h3⟩
  simp [World.setCell, Array.getElem?_modify, h1]
theorem BRow.block {g n : Nat} {W W' : World} (h : BRow g n W) (e : W'.heap[g]? = W.heap[g]?) : BRow g n W' := by
  obtain ⟨cur, lo, hi, h1, h2, h3⟩ := h
  exact ⟨cur, lo, hi, e.trans h1, h2, h3⟩
theorem BRow.lt {g n : Nat} {W : World} (h : BRow g n W) : g < W.heap.size := by
  obtain ⟨cur, lo, hi, h1, _, _⟩ := h
  exact (Array.getElem?_eq_some_iff.1 h1).1
theorem grown_self (A : World) (r : Option Nat) : A.grownBy A r := ⟨rfl, rfl, rfl, Nat.le_refl _, fun _ _ _ => rfl⟩
theorem grown_cellOf {A B : World} {g : Nat} (h : A.grownBy B (some g)) (j : Nat) (v : Value) : A.grownBy (B.setCell ⟨g, j, none⟩ v) (some g) :=
  ⟨h.os, h.tape, h.output, by simpa using h.size, fun i hi hne => (Below.heap_setCell B ⟨g, j, none⟩ v i (fun e => hne (by rw [e]))).trans (h.block i hi hne)⟩
theorem HoldsA.grownO {A B : World} {ao : Option Addr} {L : List (Int × Int)} {N g : Nat} (h : HoldsA A ao L) (hf : ∀ b, ao = some b → N ≤ b.block) (hg : A.grownBy B (some g)) (hgN : g < N) : HoldsA B ao L := by
  intro j hj
  obtain ⟨lb, lo, d, s, h1, h2, h3, h4, h5, h6, h7, h8, h9⟩ := h j hj
  have hb : N ≤ lb := hf _ h1
  have he := hg.block lb h2 (by simp; omega)
  exact ⟨lb, lo, d, s, h1, Nat.lt_of_lt_of_le h2 hg.size, h3, h4, h5, h6, h7, (World.cell?_of_block (a := ⟨lb, lo + j * 2, none⟩) he).trans h8, (World.cell?_of_block (a := ⟨lb, lo + j * 2 + 1, none⟩) he).trans h9⟩

/-- What bytes spell, as a reader answers it. -/
def decP (xs : List Int) : Pkt :=
  match xs with
  | x0 :: x1 :: x2 :: _ :: x4 :: r => if isF xs = true then pkOf x0 x1 x2 x4 r else Pkt.zero
  | _ => Pkt.zero
def decL (xs : List Int) : List (Int × Int) :=
  match xs with
  | _ :: x1 :: _ :: _ :: x4 :: r => if isF xs = true then lsOf x1 x4 r else []
  | _ => []
def decE (xs : List Int) : Int := if isF xs = true then 0 else 1
theorem decP_bad {xs : List Int} (h : isF xs = false) : decP xs = Pkt.zero ∧ decL xs = [] ∧ decE xs = 1 := by
  refine ⟨?_, ?_, by simp [decE, h]⟩
  · unfold decP
    split
    · rw [if_neg (by simp [h])]
    · rfl
  · unfold decL
    split
    · rw [if_neg (by simp [h])]
    · rfl

theorem DecodeP.shape {xs : List Int} {W w' : World} {e : Ending} (hb : ∀ x ∈ xs, 0 ≤ x ∧ x ≤ 255) (h : DecodeP xs W e w') :
    Below W.heap.size W w' ∧ ∃ ao c, e = .returned (.tuple #[({ decP xs with la := ao, lc := c } : Pkt).val, .int .i64 (decE xs)]) ∧
      (decL xs).length = (decP xs).ln ∧ (decP xs).ln ≤ 65536 ∧ HoldsA w' ao (decL xs) ∧ ∀ b, ao = some b → W.heap.size ≤ b.block := by
  refine ⟨h.1, ?_⟩
  rcases h.2 with ⟨hF, v, rfl, x0, x1, x2, x3, x4, r, ao, c, rfl, rfl, hl, hA, hf⟩ | ⟨hF, rfl⟩
  · have h1 : decP (x0 :: x1 :: x2 :: x3 :: x4 :: r) = pkOf x0 x1 x2 x4 r := by unfold decP; exact if_pos hF
    have h2 : decL (x0 :: x1 :: x2 :: x3 :: x4 :: r) = lsOf x1 x4 r := by unfold decL; exact if_pos hF
    have h3 : decE (x0 :: x1 :: x2 :: x3 :: x4 :: r) = 0 := if_pos hF
    have hw : (pkOf x0 x1 x2 x4 r).Wf := pkOf_wf (fun x hx => hb x (by simp [hx])) (hb x0 (by simp)) (hb x1 (by simp)) (hb x4 (by simp))
    rw [h1, h2, h3]
    exact ⟨ao, c, rfl, hl, hw.ln1, hA, hf⟩
  · obtain ⟨h1, h2, h3⟩ := decP_bad hF
    rw [h1, h2, h3]
    exact ⟨none, 0, rfl, rfl, Nat.zero_le _, fun j hj => absurd hj (Nat.not_lt_zero _), fun b hb => by cases hb⟩

set_option maxRecDepth 100000 in
set_option maxHeartbeats 4000000 in
theorem packets_eq (p : Pkt) (ao bo : Option Addr) (c1 c2 : Nat) (L : List (Int × Int)) (hn : L.length = p.ln) (hn1 : p.ln ≤ 65536) (w : World) (ha : HoldsA w ao L) (hb : HoldsA w bo L) :
    Calls Try.prog 11 #[({ p with la := ao, lc := c1 } : Pkt).val, ({ p with la := bo, lc := c2 } : Pkt).val] w fun e w' => e = .returned (.bool true) ∧ Below w.heap.size w w' := by
  have hB : Below w.heap.size w ((w.alloc (Pkt.box { p with la := ao, lc := c1 })).alloc (Pkt.box { p with la := bo, lc := c2 })) := ((Below.refl _ _).alloc (Nat.le_refl _) _).alloc (by simp) _
  have hP : PB { p with la := ao, lc := c1 } w.heap.size ((w.alloc (Pkt.box { p with la := ao, lc := c1 })).alloc (Pkt.box { p with la := bo, lc := c2 })) := (PB.new _ w).alloc _
  have hQ : PB { p with la := bo, lc := c2 } (w.heap.size + 1) ((w.alloc (Pkt.box { p with la := ao, lc := c1 })).alloc (Pkt.box { p with la := bo, lc := c2 })) := by
    have h := PB.new { p with la := bo, lc := c2 } (w.alloc (Pkt.box { p with la := ao, lc := c1 }))
    rw [World.size_alloc] at h
    exact h
  have ha1 := ha.below hB
  have hb1 := hb.below hB
  dsimp only [Pkt.box] at hB hP hQ ha1 hb1
  go_enter Try.func11, Try.ntmps11
  go_wp2_with fail
  clear ha hb
  generalize World.alloc _ _ = W0 at hB hP hQ ha1 hb1 ⊢
  refine (lost_eq ao bo p.ln c1 c2 L _ hn hn1 ha1 hb1).mono ?_
  rintro e W1 ⟨rfl, hb2⟩
  have hB1 := hB.trans (hb2.mono hB.size)
  have hP1 := hP.below hb2
  have hQ1 := hQ.below hb2
  clear hB hP hQ ha1 hb1 hb2
  obtain ⟨a0, a1, a2, a3, a4, a5, a6, a7, a8, a9, a10, a11⟩ := hP1.cell
  obtain ⟨b0, b1, b2, b3, b4, b5, b6, b7, b8, b9, b10, b11⟩ := hQ1.cell
  dsimp only at a0 a1 a2 a3 a4 a5 a6 a7 a8 a9 a10 a11 b0 b1 b2 b3 b4 b5 b6 b7 b8 b9 b10 b11
  clear hP1 hQ1
  go_wp2_with fail
  go_ret
  exact ⟨rfl, hB1⟩
end Go.Proofs.Ytmahaccaglaldaa
