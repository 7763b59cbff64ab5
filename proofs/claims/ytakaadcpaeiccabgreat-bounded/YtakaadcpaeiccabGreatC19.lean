import Derived.Test.YtakaadcpaeiccabGreatC18
import Derived.Test.YtakaadcpaeiccabGreatC05
namespace Go.Proofs.YtakaadcpaeiccabGreat
open Go.RowKit

theorem info_lost : (Tryz.prog.info? 237).map (fun i => (i.zero, i.size, i.bytes)) = some (some (.agg #[.int .u32 0, .int .u32 0]), 2, 8) := by kernel_rfl

theorem goodB_la (p : Pkt) (a : Option Addr) (c : Nat) : ({ p with la := a, lc := c } : Pkt).goodB = p.goodB := by
  unfold Pkt.goodB
  congr 1
  unfold Pkt.forP
  dsimp only
  split
  · rfl
  split
  · rfl
  split
  · rfl
  split
  · rfl
  · rfl

/-- The cells of a list of what is lost. -/
def LC (L : List (Int × Int)) : List Value := L.flatMap fun x => [.int .u32 x.1, .int .u32 x.2]
theorem LC_length (L : List (Int × Int)) : (LC L).length = L.length * 2 := by
  induction L with
  | nil => rfl
  | cons a L ih =>
    simp only [LC, List.flatMap_cons, List.length_append, List.length_cons, List.length_nil] at ih ⊢
    omega
theorem LC_get (L : List (Int × Int)) (j : Nat) : (LC L)[j * 2]? = (L[j]?).map (fun x => Value.int .u32 x.1) ∧ (LC L)[j * 2 + 1]? = (L[j]?).map (fun x => Value.int .u32 x.2) := by
  induction L generalizing j with
  | nil => simp [LC]
  | cons a L ih =>
    cases j with
    | zero => simp [LC]
    | succ j =>
      have h := ih j
      simp only [LC, List.flatMap_cons] at h ⊢
      rw [show (j + 1) * 2 = j * 2 + 1 + 1 by omega]
      simpa using h

/-- The row that the copy of the list lies in. -/
theorem HoldsA.ofRow {W W0 : World} {base : Nat} {v : Value} {n : Nat} {L : List (Int × Int)} {ao : Option Addr} (h : W.ownsRow base 237 2 v n (LC L)) (hv : v ≠ .slice none 0 0) (h0 : HoldsA W0 ao L) :
    ∃ g cap, v = .slice (some ⟨g, 0, none⟩) n cap ∧ base ≤ g ∧ g < W.heap.size ∧ HoldsA W (some ⟨g, 0, none⟩) L := by
  rcases h.2 with ⟨rfl, _⟩ | ⟨g, cap, cur, rfl, hb, hg, _⟩
  · exact absurd rfl hv
  · have hlt := (Array.getElem?_eq_some_iff.1 hg).1
    refine ⟨g, cap, rfl, hb, hlt, fun j hj => ?_⟩
    obtain ⟨_, _, d, s, _, _, hds, h4, h5, h6, h7, _, _⟩ := h0 j hj
    have hl := h.1
    rw [LC_length] at hl
    have hg := LC_get L j
    rw [hds] at hg
    refine ⟨g, 0, d, s, rfl, hlt, hds, h4, h5, h6, h7, ?_, ?_⟩
    · rw [Nat.zero_add, h.cellAt (j * 2) (by omega), hg.1]; rfl
    · rw [Nat.zero_add, h.cellAt (j * 2 + 1) (by omega), hg.2]; rfl

/-- What the law's rounds hold on to. -/
structure EInv (p q : Pkt) (L : List (Int × Int)) (w W : World) : Prop where
  a : InC p w.heap.size W
  b : InC q (w.heap.size + 1) W
  la : HoldsA W p.la L
  lb : HoldsA W q.la L
  below : Below w.heap.size w W
  sz : w.heap.size + 2 ≤ W.heap.size

theorem EInv.step {p q : Pkt} {L : List (Int × Int)} {w W W' : World} (h : EInv p q L w W) (hb : Below W.heap.size W W') : EInv p q L w W' :=
  ⟨h.a.below hb (by have := h.sz; omega), h.b.below hb (by have := h.sz; omega), h.la.below hb, h.lb.below hb, h.below.trans (hb.mono (by have := h.sz; omega)), Nat.le_trans h.sz hb.size⟩

theorem setCell_far (W : World) (a b : Addr) (v : Value) (h : b.block ≠ a.block) : (W.setCell a v).cell? b = W.cell? b :=
  World.cell?_of_block (Below.heap_setCell W a v b.block h)

theorem EInv.start (p : Pkt) (L : List (Int × Int)) (w W1 : World) (v' : Value) (hL : HoldsA w p.la L)
    (hown : W1.ownsRow (w.heap.size + 2) 237 2 v' p.ln (LC L)) (hnn : v' ≠ .slice none 0 0)
    (hB : Below (w.heap.size + 2) (((w.alloc p.box).alloc p.box).alloc (.cells #[] 237)) W1) :
    (W1.cell? ⟨w.heap.size + 1, 10, none⟩ = some (.slice p.la p.ln p.lc) ∧ W1.frozen? ⟨w.heap.size + 1, 10, none⟩ = false) ∧
    ∃ g cap, v' = .slice (some ⟨g, 0, none⟩) p.ln cap ∧ EInv p { p with la := some ⟨g, 0, none⟩, lc := cap } L w (W1.setCell ⟨w.heap.size + 1, 10, none⟩ v') := by
  have hsz : (((w.alloc p.box).alloc p.box).alloc (.cells #[] 237)).heap.size = w.heap.size + 3 := by simp
  have hw1 := hB.size
  rw [hsz] at hw1
  have hb0 : Below w.heap.size w (((w.alloc p.box).alloc p.box).alloc (.cells #[] 237)) := (((Below.refl w.heap.size w).alloc (Nat.le_refl _) p.box).alloc (by simp) p.box).alloc (by simp; omega) _
  have hb1 : Below w.heap.size w W1 := hb0.trans (hB.mono (by omega))
  have hA := InC.new p w
  have hA' : InC p w.heap.size (((w.alloc p.box).alloc p.box).alloc (.cells #[] 237)) :=
    hA.below (B := w.heap.size + 1) (((Below.refl _ _).alloc (by simp) _).alloc (by simp) _) (by omega)
  have hQ := InC.new p (w.alloc p.box)
  have hQ' : InC p (w.heap.size + 1) (((w.alloc p.box).alloc p.box).alloc (.cells #[] 237)) := by
    rw [World.size_alloc] at hQ
    exact hQ.below (B := w.heap.size + 2) ((Below.refl _ _).alloc (by simp) _) (by omega)
  have hA1 := hA'.below hB (by omega)
  have hQ1 := hQ'.below hB (by omega)
  have hfz : W1.frozen? ⟨w.heap.size + 1, 10, none⟩ = false := by
    rw [hB.frozen (p := ⟨w.heap.size + 1, 10, none⟩) (by simp)]
    have h1 : (((w.alloc p.box).alloc p.box).alloc (.cells #[] 237)).frozen? ⟨w.heap.size + 1, 10, none⟩ = ((w.alloc p.box).alloc p.box).frozen? ⟨w.heap.size + 1, 10, none⟩ :=
      World.frozen?_of_block (Below.heap_alloc _ _ _ (by simp))
    rw [h1]
    have h2 := World.frozen?_alloc_at (w := w.alloc p.box) (c := #[.int .i64 p.ttl, .int .i64 p.kind, .int .i64 p.hops, .bool p.unk, .int .u32 p.id, .int .u32 p.dest, .int .u32 p.dseq, .int .u32 p.frm, .int .u32 p.fseq, .int .u32 p.life, .slice p.la p.ln p.lc, .string p.pay]) (t := 73) (n := w.heap.size + 1) (i := 10) (by simp)
    exact h2
  refine ⟨⟨hQ1.2.2.2.2.2.2.2.2.2.2.1, hfz⟩, ?_⟩
  obtain ⟨g, cap, rfl, hg0, hg1, hLg⟩ := HoldsA.ofRow hown hnn hL
  refine ⟨g, cap, rfl, ?_⟩
  have far : ∀ b : Addr, b.block ≠ w.heap.size + 1 → (W1.setCell ⟨w.heap.size + 1, 10, none⟩ (.slice (some ⟨g, 0, none⟩) p.ln cap)).cell? b = W1.cell? b := fun b hb => setCell_far W1 _ b _ hb
  have hcell10 : (W1.setCell ⟨w.heap.size + 1, 10, none⟩ (.slice (some ⟨g, 0, none⟩) p.ln cap)).cell? ⟨w.heap.size + 1, 10, none⟩ = some (.slice (some ⟨g, 0, none⟩) p.ln cap) :=
    World.cell?_setCell_same _ _ _ hQ1.2.2.2.2.2.2.2.2.2.2.1
  have other : ∀ i, i ≠ 10 → (W1.setCell ⟨w.heap.size + 1, 10, none⟩ (.slice (some ⟨g, 0, none⟩) p.ln cap)).cell? ⟨w.heap.size + 1, i, none⟩ = W1.cell? ⟨w.heap.size + 1, i, none⟩ := fun i hi =>
    World.cell?_setCell_other _ _ _ _ (fun e => hi (by cases e; rfl))
  obtain ⟨a0, a1, a2, a3, a4, a5, a6, a7, a8, a9, a10, a11⟩ := hA1
  obtain ⟨b0, b1, b2, b3, b4, b5, b6, b7, b8, b9, b10, b11⟩ := hQ1
  have na : w.heap.size ≠ w.heap.size + 1 := by omega
  refine ⟨?_, ?_, ?_, ?_, hb1.setCell (by simp) _, by simp; omega⟩
  · exact ⟨(far _ na).trans a0, (far _ na).trans a1, (far _ na).trans a2, (far _ na).trans a3, (far _ na).trans a4, (far _ na).trans a5, (far _ na).trans a6, (far _ na).trans a7, (far _ na).trans a8, (far _ na).trans a9, (far _ na).trans a10, (far _ na).trans a11⟩
  · exact ⟨(other _ (by decide)).trans b0, (other _ (by decide)).trans b1, (other _ (by decide)).trans b2, (other _ (by decide)).trans b3, (other _ (by decide)).trans b4, (other _ (by decide)).trans b5, (other _ (by decide)).trans b6, (other _ (by decide)).trans b7, (other _ (by decide)).trans b8, (other _ (by decide)).trans b9, hcell10, (other _ (by decide)).trans b11⟩
  · intro j hj
    obtain ⟨lb, lo, d, s, h1, h2, h3, h4, h5, h6, h7, h8, h9⟩ := (hL.below hb1) j hj
    obtain ⟨lb', lo', d', s', h1', h2', _⟩ := hL j hj
    have he := h1.symm.trans h1'
    simp only [Option.some.injEq, Addr.mk.injEq, and_true] at he
    have hne : lb ≠ w.heap.size + 1 := by omega
    exact ⟨lb, lo, d, s, h1, by simpa using h2, h3, h4, h5, h6, h7, (far _ hne).trans h8, (far _ hne).trans h9⟩
  · intro j hj
    obtain ⟨lb, lo, d, s, h1, h2, h3, h4, h5, h6, h7, h8, h9⟩ := hLg j hj
    have he := h1
    simp only [Option.some.injEq, Addr.mk.injEq, and_true] at he
    have hne : lb ≠ w.heap.size + 1 := by omega
    exact ⟨lb, lo, d, s, h1, by simpa using h2, h3, h4, h5, h6, h7, (far _ hne).trans h8, (far _ hne).trans h9⟩

end Go.Proofs.YtakaadcpaeiccabGreat

namespace Go.Proofs.YtakaadcpaeiccabGreat
open Go.RowKit

theorem good_fits {p : Pkt} (h : p.goodB = true) : 1 ≤ p.kind ∧ p.kind ≤ 9 ∧ 0 ≤ p.cnt ∧ p.cnt ≤ 255 ∧ p.ln ≤ 8 := by
  obtain ⟨hl, _, _, h1, h2, h3, hk⟩ := good_parts h
  have hln := (like_parts hl).1
  unfold Pkt.cnt
  rcases hk with hk | hk | hk | ⟨hk, _, _⟩
  · have : p.ownP.ln = 0 := by simp [Pkt.ownP, hk]
    simp [hk]; omega
  · have : p.ownP.ln = 0 := by simp [Pkt.ownP, hk]
    simp [hk]; omega
  · have : p.ownP.ln = 0 := by simp [Pkt.ownP, hk]
    simp [hk]; omega
  · simp [hk]; omega

end Go.Proofs.YtakaadcpaeiccabGreat

namespace Go.Proofs.YtakaadcpaeiccabGreat
open Go.RowKit

theorem Rd.alloc {R : Nat} {xs : List Int} {W : World} (h : Rd R xs W) (o : Obj) : Rd R xs (W.alloc o) := by
  obtain ⟨v, h1, h2, hb, h3⟩ := h
  have hlt := World.block_lt_of_cell? W _ h1
  refine ⟨v, (World.cell?_alloc_lt _ _ _ hlt).trans h1, (World.frozen?_alloc_old W o _ (by simp at hlt ⊢; omega)).trans h2, hb, ?_⟩
  rcases h3 with h | ⟨b, o', c, rfl, k1, k2, k3⟩
  · exact .inl h
  · exact .inr ⟨b, o', c, rfl, k1, k2, fun j x hx => (World.cell?_alloc_lt _ _ _ (World.block_lt_of_cell? W _ (k3 j x hx))).trans (k3 j x hx)⟩

theorem Rd.setCell {R : Nat} {xs : List Int} {W : World} (h : Rd R xs W) {B : Nat} (hB : B ≠ R) {i : Nat} (u u' : Value) (hu : ∀ n, u ≠ .int .u8 n) (hc : W.cell? ⟨B, i, none⟩ = some u) : Rd R xs (W.setCell ⟨B, i, none⟩ u') := by
  obtain ⟨v, h1, h2, hb, h3⟩ := h
  refine ⟨v, (World.cell?_setCell_other _ _ _ _ (fun e => hB (by cases e; rfl))).trans h1, (World.frozen?_setCell _ _ _ _).trans h2, hb, ?_⟩
  rcases h3 with h | ⟨b, o', c, rfl, k1, k2, k3⟩
  · exact .inl h
  · refine .inr ⟨b, o', c, rfl, k1, k2, fun j x hx => ?_⟩
    have hk := k3 j x hx
    rw [World.cell?_setCell_other _ _ _ _ (fun e => by rw [← e, hc] at hk; exact hu _ (Option.some.inj hk))]
    exact hk

theorem Rd.drew {R : Nat} {xs : List Int} {W : World} (h : Rd R xs W) : Rd R xs W.drew := h
theorem PB.drew {p : Pkt} {B : Nat} {W : World} (h : W.heap[B]? = some p.box) : W.drew.heap[B]? = some p.box := h

theorem Rd.lt {R : Nat} {xs : List Int} {W : World} (h : Rd R xs W) : R < W.heap.size := by
  obtain ⟨v, h1, _⟩ := h
  exact World.block_lt_of_cell? W _ h1

/-- A packet in a block of its own. -/
def PB (p : Pkt) (B : Nat) (W : World) : Prop := W.heap[B]? = some p.box
theorem PB.new (p : Pkt) (W : World) : PB p W.heap.size (W.alloc p.box) := heap_alloc_new W _
theorem PB.lt {p : Pkt} {B : Nat} {W : World} (h : PB p B W) : B < W.heap.size := (Array.getElem?_eq_some_iff.1 h).1
theorem PB.grown {p : Pkt} {B R : Nat} {W W' : World} (h : PB p B W) (hg : W.grownBy W' (some R)) (hne : B ≠ R) : PB p B W' := (hg.block B h.lt (by simpa using hne)).trans h
theorem PB.alloc {p : Pkt} {B : Nat} {W : World} (h : PB p B W) (o : Obj) : PB p B (W.alloc o) := (Below.heap_alloc W o B h.lt).trans h
theorem PB.cell {p : Pkt} {B : Nat} {W : World} (h : PB p B W) : InC p B W := by
  have k := fun i => cell_of_row W B i _ _ _ h
  exact ⟨k 0, k 1, k 2, k 3, k 4, k 5, k 6, k 7, k 8, k 9, k 10, k 11⟩
theorem PB.free {p : Pkt} {B : Nat} {W : World} (h : PB p B W) (i : Nat) : W.frozen? ⟨B, i, none⟩ = false := frozen_of_row W B i _ _ h
theorem PB.other {p : Pkt} {B : Nat} {W : World} (h : PB p B W) {a : Addr} (ha : B ≠ a.block) (v : Value) : PB p B (W.setCell a v) := (Below.heap_setCell W a v B ha).trans h

/-- No packet yet. -/
def Pkt.zero : Pkt := ⟨0, 0, 0, false, 0, 0, 0, 0, 0, 0, none, 0, 0, ⟨#[]⟩⟩

theorem PB.set {p : Pkt} {B : Nat} {W : World} (h : PB p B W) (q : Pkt) (i : Nat) (v : Value) (hq : Obj.cells ((#[.int .i64 p.ttl, .int .i64 p.kind, .int .i64 p.hops, .bool p.unk, .int .u32 p.id, .int .u32 p.dest, .int .u32 p.dseq, .int .u32 p.frm, .int .u32 p.fseq, .int .u32 p.life, .slice p.la p.ln p.lc, .string p.pay] : Array Value).setIfInBounds i v) 73 (0, 0) = q.box) :
    PB q B (W.setCell ⟨B, i, none⟩ v) := by
  unfold PB
  rw [heap_setCell_same W B i _ _ v h]
  rw [hq]

theorem one_cons (R : Nat) (x : Int) (ys : List Int) (W : World) (h : Rd R (x :: ys) W) :
    Calls Tryz.prog 84 #[.pointer (some ⟨R, 0, none⟩)] W fun e w' => e = .returned (.int .i64 x) ∧ Rd R ys w' ∧ W.grownBy w' (some R) := by
  refine (one_any R _ W h).mono ?_
  rintro e w' (⟨x', ys', hx, _, _, rfl, h1, h2, _⟩ | ⟨hx, _⟩)
  · obtain ⟨rfl, rfl⟩ := List.cons.inj hx
    exact ⟨rfl, h1, h2⟩
  · cases hx
theorem one_nil (R : Nat) (W : World) (h : Rd R [] W) :
    Calls Tryz.prog 84 #[.pointer (some ⟨R, 0, none⟩)] W fun e w' => e = .panicked broken ∧ w' = W := by
  refine (one_any R _ W h).mono ?_
  rintro e w' (⟨x', ys', hx, _⟩ | ⟨_, rfl, rfl⟩)
  · cases hx
  · exact ⟨rfl, rfl⟩

/-- The i-th number of bytes. -/
def num (r : List Int) (i : Nat) : Int := n4 (r.getD (4 * i) 0) (r.getD (4 * i + 1) 0) (r.getD (4 * i + 2) 0) (r.getD (4 * i + 3) 0)

/-- The packet that bytes spell: the first, the second, the third, the fifth, and what follows. -/
def pkOf (x0 x1 x2 x4 : Int) (r : List Int) : Pkt :=
  if x1 = 1 then ⟨x0, 1, x4, x2 == 8, num r 0, num r 1, num r 2, num r 3, num r 4, 0, none, 0, 0, ⟨#[]⟩⟩
  else if x1 = 2 then ⟨x0, 2, x4, x2 == 8, 0, num r 0, num r 1, num r 2, 0, num r 3, none, 0, 0, ⟨#[]⟩⟩
  else if x1 = 3 then ⟨x0, 3, 0, x2 == 8, 0, 0, 0, 0, 0, 0, none, x4.toNat, 0, ⟨#[]⟩⟩
  else if x1 = 9 then ⟨x0, 9, 0, x2 == 8, num r 0, num r 1, 0, num r 2, 0, 0, none, 0, 0, strOfNums ((r.drop 12).take x4.toNat)⟩
  else ⟨x0, x1, 0, x2 == 8, 0, 0, 0, 0, 0, 0, none, 0, 0, ⟨#[]⟩⟩

/-- The list that bytes spell. -/
def plOf (n : Nat) (r : List Int) : List (Int × Int) := (List.range n).map fun i => (num r (2 * i), num r (2 * i + 1))
def lsOf (x1 x4 : Int) (r : List Int) : List (Int × Int) := if x1 = 3 then plOf x4.toNat r else []

/-- How many bytes follow the first five. -/
def needOf (x1 x4 : Int) : Nat := if x1 = 1 then 20 else if x1 = 2 then 16 else if x1 = 3 then 8 * x4.toNat else if x1 = 9 then 12 + x4.toNat else 0

/-- Are these bytes a frame? -/
def isF (xs : List Int) : Bool :=
  match xs with
  | x0 :: x1 :: x2 :: x3 :: x4 :: r => decide (x2 = 0 ∨ x2 = 8) && decide (x3 = 0) && decide (r.length = needOf x1 x4) && (pkOf x0 x1 x2 x4 r).goodB
  | _ => false

theorem grown_trans' {A B C : World} {r : Option Nat} (h : A.grownBy B r) (k : B.grownBy C r) : A.grownBy C r :=
  ⟨k.os.trans h.os, k.tape.trans h.tape, k.output.trans h.output, Nat.le_trans h.size k.size, fun i hi hne => (k.block i (Nat.lt_of_lt_of_le hi h.size) hne).trans (h.block i hi hne)⟩
theorem isF_len {x0 x1 x2 x3 x4 : Int} {r : List Int} (h : r.length ≠ needOf x1 x4) : isF (x0 :: x1 :: x2 :: x3 :: x4 :: r) = false := by
  simp [isF, h]
theorem isF_eq {x0 x1 x2 x4 : Int} {r : List Int} (hf : x2 = 0 ∨ x2 = 8) (h : r.length = needOf x1 x4) : isF (x0 :: x1 :: x2 :: 0 :: x4 :: r) = (pkOf x0 x1 x2 x4 r).goodB := by
  simp [isF, h, hf]
theorem Rd.bytes {R : Nat} {xs : List Int} {W : World} (h : Rd R xs W) : ∀ x ∈ xs, 0 ≤ x ∧ x ≤ 255 := by
  obtain ⟨_, _, _, hb, _⟩ := h
  exact hb
theorem n4_b {a b c d : Int} (ha : 0 ≤ a ∧ a ≤ 255) (hb : 0 ≤ b ∧ b ≤ 255) (hc : 0 ≤ c ∧ c ≤ 255) (hd : 0 ≤ d ∧ d ≤ 255) : 0 ≤ n4 a b c d ∧ n4 a b c d < 4294967296 := by
  unfold n4
  omega
theorem PB.below {p : Pkt} {B : Nat} {W W' : World} (h : PB p B W) (hb : Below W.heap.size W W') : PB p B W' := (hb.block B h.lt).trans h
theorem grown_below {A B C : World} {r : Option Nat} (h : A.grownBy B r) (k : Below B.heap.size B C) : A.grownBy C r :=
  grown_trans' h ⟨k.os, k.tape, k.output, k.size, fun i hi _ => k.block i hi⟩

/-- What is read: the packet, its list elsewhere. -/
def Reads (xs : List Int) (v : Value) (W : World) (N : Nat) : Prop :=
  ∃ x0 x1 x2 x3 x4 r ao c, xs = x0 :: x1 :: x2 :: x3 :: x4 :: r ∧ v = ({ pkOf x0 x1 x2 x4 r with la := ao, lc := c } : Pkt).val ∧
    (lsOf x1 x4 r).length = (pkOf x0 x1 x2 x4 r).ln ∧ HoldsA W ao (lsOf x1 x4 r) ∧ ∀ b, ao = some b → N ≤ b.block

def PacketP (R : Nat) (xs : List Int) (W : World) (e : Ending) (w' : World) : Prop :=
  W.grownBy w' (some R) ∧ ((isF xs = true ∧ ∃ v, e = .returned v ∧ Reads xs v w' W.heap.size) ∨ (isF xs = false ∧ e = .panicked broken))
theorem grown_trans {A B C : World} {r : Option Nat} (h : A.grownBy B r) (k : B.grownBy C r) : A.grownBy C r := grown_trans' h k
theorem grown_drew {A B : World} {r : Option Nat} (h : A.grownBy B r) : A.grownBy B.drew r := ⟨h.os, h.tape, h.output, h.size, h.block⟩
/-- A store into what is new. -/
theorem grown_new {A B : World} {r : Option Nat} (h : A.grownBy B r) {a : Addr} (ha : A.heap.size ≤ a.block) (v : Value) : A.grownBy (B.setCell a v) r :=
  ⟨h.os, h.tape, h.output, by simpa using h.size, fun i hi hne => (Below.heap_setCell B a v i (by omega)).trans (h.block i hi hne)⟩
/-- A packet stored whole. -/
@[reducible] def store12 (w : World) (C : Nat) (p : Pkt) : World :=
  ((((((((((((w.setCell ⟨C, 0, none⟩ (.int .i64 p.ttl)).setCell ⟨C, 1, none⟩ (.int .i64 p.kind)).setCell ⟨C, 2, none⟩ (.int .i64 p.hops)).setCell ⟨C, 3, none⟩ (.bool p.unk)).setCell ⟨C, 4, none⟩ (.int .u32 p.id)).setCell ⟨C, 5, none⟩ (.int .u32 p.dest)).setCell ⟨C, 6, none⟩ (.int .u32 p.dseq)).setCell ⟨C, 7, none⟩ (.int .u32 p.frm)).setCell ⟨C, 8, none⟩ (.int .u32 p.fseq)).setCell ⟨C, 9, none⟩ (.int .u32 p.life)).setCell ⟨C, 10, none⟩ (.slice p.la p.ln p.lc)).setCell ⟨C, 11, none⟩ (.string p.pay))
theorem PB.storeAll {z : Pkt} {C : Nat} {w : World} (h : PB z C w) (p : Pkt) : PB p C (store12 w C p) := by
  have h0 := PB.set h ⟨p.ttl, z.kind, z.hops, z.unk, z.id, z.dest, z.dseq, z.frm, z.fseq, z.life, z.la, z.ln, z.lc, z.pay⟩ 0 (.int .i64 p.ttl) rfl
  have h1 := PB.set h0 ⟨p.ttl, p.kind, z.hops, z.unk, z.id, z.dest, z.dseq, z.frm, z.fseq, z.life, z.la, z.ln, z.lc, z.pay⟩ 1 (.int .i64 p.kind) rfl
  have h2 := PB.set h1 ⟨p.ttl, p.kind, p.hops, z.unk, z.id, z.dest, z.dseq, z.frm, z.fseq, z.life, z.la, z.ln, z.lc, z.pay⟩ 2 (.int .i64 p.hops) rfl
  have h3 := PB.set h2 ⟨p.ttl, p.kind, p.hops, p.unk, z.id, z.dest, z.dseq, z.frm, z.fseq, z.life, z.la, z.ln, z.lc, z.pay⟩ 3 (.bool p.unk) rfl
  have h4 := PB.set h3 ⟨p.ttl, p.kind, p.hops, p.unk, p.id, z.dest, z.dseq, z.frm, z.fseq, z.life, z.la, z.ln, z.lc, z.pay⟩ 4 (.int .u32 p.id) rfl
  have h5 := PB.set h4 ⟨p.ttl, p.kind, p.hops, p.unk, p.id, p.dest, z.dseq, z.frm, z.fseq, z.life, z.la, z.ln, z.lc, z.pay⟩ 5 (.int .u32 p.dest) rfl
  have h6 := PB.set h5 ⟨p.ttl, p.kind, p.hops, p.unk, p.id, p.dest, p.dseq, z.frm, z.fseq, z.life, z.la, z.ln, z.lc, z.pay⟩ 6 (.int .u32 p.dseq) rfl
  have h7 := PB.set h6 ⟨p.ttl, p.kind, p.hops, p.unk, p.id, p.dest, p.dseq, p.frm, z.fseq, z.life, z.la, z.ln, z.lc, z.pay⟩ 7 (.int .u32 p.frm) rfl
  have h8 := PB.set h7 ⟨p.ttl, p.kind, p.hops, p.unk, p.id, p.dest, p.dseq, p.frm, p.fseq, z.life, z.la, z.ln, z.lc, z.pay⟩ 8 (.int .u32 p.fseq) rfl
  have h9 := PB.set h8 ⟨p.ttl, p.kind, p.hops, p.unk, p.id, p.dest, p.dseq, p.frm, p.fseq, p.life, z.la, z.ln, z.lc, z.pay⟩ 9 (.int .u32 p.life) rfl
  have h10 := PB.set h9 ⟨p.ttl, p.kind, p.hops, p.unk, p.id, p.dest, p.dseq, p.frm, p.fseq, p.life, p.la, p.ln, p.lc, z.pay⟩ 10 (.slice p.la p.ln p.lc) rfl
  have h11 := PB.set h10 ⟨p.ttl, p.kind, p.hops, p.unk, p.id, p.dest, p.dseq, p.frm, p.fseq, p.life, p.la, p.ln, p.lc, p.pay⟩ 11 (.string p.pay) rfl
  exact h11
theorem grown_store {A B : World} {r : Option Nat} (h : A.grownBy B r) {C : Nat} (hC : A.heap.size ≤ C) (p : Pkt) : A.grownBy (store12 B C p) r :=
  grown_new (grown_new (grown_new (grown_new (grown_new (grown_new (grown_new (grown_new (grown_new (grown_new (grown_new (grown_new h hC _) hC _) hC _) hC _) hC _) hC _) hC _) hC _) hC _) hC _) hC _) hC _

end Go.Proofs.YtakaadcpaeiccabGreat

namespace Go.Proofs.YtakaadcpaeiccabGreat
open Go.RowKit Go.Maps

theorem info_fr : (Tryz.prog.info? 77).map (fun i => (i.zero, i.size, i.bytes)) = some (some (.agg #[.int .u32 0, .string ⟨#[]⟩]), 2, 24) := by kernel_rfl
theorem info_rs : (Tryz.prog.info? 195).map (fun i => (i.zero, i.size, i.bytes)) = some (some (.int .i64 0), 1, 8) := by kernel_rfl
/-- The frame that goes out: of no packet none. -/
def encX (p : Pkt) (L : List (Int × Int)) : List Int := if p.goodB then encB p L else []
theorem Encode_x (p : Pkt) (hp : p.Wf) (L : List (Int × Int)) (w : World) (hL : HoldsL w p L) :
    Calls Tryz.prog 117 #[p.val] w fun e w' => ∃ a n c er, e = .returned (.tuple #[.slice a n c, .int .i64 er]) ∧ Below w.heap.size w w' ∧ ∀ W, Below w'.heap.size w' W → (convert 58 9 (.slice a n c)).run Tryz.prog W = .ok (.string (strOfNums (encX p L))) W := by
  cases hg : p.goodB
  · refine (Encode_bad p hp hg w).mono ?_
    rintro e w' ⟨rfl, hb⟩
    refine ⟨none, 0, 0, 1, rfl, hb, fun W _ => ?_⟩
    have : encX p L = [] := by simp [encX, hg]
    rw [this]
    exact run_convert_bytes_nil (P := Tryz.prog) W 58 5 Tryz.underlying58 Tryz.underlying5 0 0 9 Tryz.underlying9
  · obtain ⟨h1, h2, h3, h4, h5⟩ := good_fits hg
    obtain ⟨_, k1, k2, _, _, k3, _⟩ := good_parts hg
    refine (Encode_good p hp hg (by omega) (by omega) h1 h2 h3 h4 h5 (by omega) L w hL).mono ?_
    rintro e w' ⟨v, rfl, hb, hv, ho⟩
    obtain ⟨g, cap, rfl, _⟩ := row_shape ho hv
    refine ⟨_, _, _, 0, rfl, hb, fun W hW => ?_⟩
    have : encX p L = encB p L := by simp [encX, hg]
    rw [this]
    exact conv_row W _ _ _ (step_append_kept ho hW) hv

theorem cells_rs (W : World) (r : Int) : ∀ (j : Nat) (u : Value), (DrC [r])[j]? = some u → (W.alloc (.cells #[.int .i64 r] 195)).cell? ((⟨W.heap.size, 0, none⟩ : Addr).add j) = some u := by
  intro j u hj
  have h := heap_alloc_new W (.cells #[.int .i64 r] 195)
  rw [Addr.add_lit, Nat.zero_add]
  match j, hj with
  | 0, hj => exact (cell_of_row _ _ 0 _ _ _ h).trans hj
  | j + 1, hj => simp [DrC] at hj
theorem one_rs (L : List Int) : ∀ u ∈ DrC L, u.oneCell' = true := by
  intro u hu
  simp only [DrC, List.mem_map] at hu
  obtain ⟨y, _, rfl⟩ := hu
  rfl
theorem cells_fr (W : World) (t : Int) (s : ByteArray) : ∀ (j : Nat) (u : Value), (FrC [(t, s)])[j]? = some u → (W.alloc (.cells #[.int .u32 t, .string s] 77)).cell? ((⟨W.heap.size, 0, none⟩ : Addr).add j) = some u := by
  intro j u hj
  have h := heap_alloc_new W (.cells #[.int .u32 t, .string s] 77)
  rw [Addr.add_lit, Nat.zero_add]
  match j, hj with
  | 0, hj => exact (cell_of_row _ _ 0 _ _ _ h).trans hj
  | 1, hj => exact (cell_of_row _ _ 1 _ _ _ h).trans hj
  | j + 2, hj => simp [FrC] at hj
theorem one_fr (L : List (Int × ByteArray)) : ∀ u ∈ FrC L, u.oneCell' = true := by
  intro u hu
  simp only [FrC, List.mem_flatMap, List.mem_cons, List.not_mem_nil, or_false] at hu
  obtain ⟨y, _, rfl | rfl⟩ := hu <;> rfl
theorem AcM.alloc {B base : Nat} {a : AcV} {nws : List (Bool × Int × Int)} {frs cms : List (Int × ByteArray)} {drs : List Int} {W : World} (h : AcM B base a nws frs cms drs W) (o : Obj) : AcM B base a nws frs cms drs (W.alloc o) := h.later ((Below.refl _ _).alloc (Nat.le_refl _) o)
theorem AcM.drew {B base : Nat} {a : AcV} {nws : List (Bool × Int × Int)} {frs cms : List (Int × ByteArray)} {drs : List Int} {W : World} (h : AcM B base a nws frs cms drs W) : AcM B base a nws frs cms drs W.drew := h.later (Below.refl _ _).drew
/-- The list of what is dropped has grown. -/
theorem AcM.drops {B base : Nat} {a : AcV} {nws : List (Bool × Int × Int)} {frs cms : List (Int × ByteArray)} {drs drs' : List Int} {W W7 : World} (h : AcM B base a nws frs cms drs W) {v7 : Value} (ho : W7.ownsRow base 195 1 v7 drs'.length (DrC drs')) (hg : W.grownBy W7 a.drp.ownBlock) :
    AcB B a W7 ∧ AcM B base { a with drp := v7 } nws frs cms drs' (W7.setCell ⟨B, 6, none⟩ v7) ∧ Fx (AcIn B a) W (W7.setCell ⟨B, 6, none⟩ v7) := by
  have hBr : a.drp.ownBlock ≠ some B := row_not h.drp h.blk (fun c e => (by cases e))
  have hB7 : AcB B a W7 := h.blk.block (hg.block _ h.blk.lt (fun e => hBr e.symm))
  have hg2 : W7.grownBy (W7.setCell ⟨B, 6, none⟩ v7) (some B) := grown_cellOf (grown_self _ (some B)) 6 v7
  have f1 := h.frm.kept hg (rows_apart h.frm h.drp (by decide))
  have f2 := h.cam.kept hg (rows_apart h.cam h.drp (by decide))
  have f3 := h.wrt.kept hg (rows_apart h.wrt h.drp (by decide))
  exact ⟨hB7, ⟨hB7.setDrp v7, f3.kept hg2 (.inr (row_not f3 hB7 (fun c e => (by cases e)))), f1.kept hg2 (.inr (row_not f1 hB7 (fun c e => (by cases e)))), f2.kept hg2 (.inr (row_not f2 hB7 (fun c e => (by cases e)))), ho.kept hg2 (.inr (row_not ho hB7 (fun c e => (by cases e))))⟩,
    grown_Fx (Fx.grown hg fun k e => .inr (.inr (.inr (.inr e)))) hg2 fun i _ e => by cases e; exact .inl rfl⟩
theorem AcM.sends {B base : Nat} {a : AcV} {nws : List (Bool × Int × Int)} {frs frs' cms : List (Int × ByteArray)} {drs : List Int} {W W7 : World} (h : AcM B base a nws frs cms drs W) {v7 : Value} (ho : W7.ownsRow base 77 2 v7 frs'.length (FrC frs')) (hg : W.grownBy W7 a.frm.ownBlock) :
    AcB B a W7 ∧ AcM B base { a with frm := v7 } nws frs' cms drs (W7.setCell ⟨B, 4, none⟩ v7) ∧ Fx (AcIn B a) W (W7.setCell ⟨B, 4, none⟩ v7) := by
  have hBr : a.frm.ownBlock ≠ some B := row_not h.frm h.blk (fun c e => (by cases e))
  have hB7 : AcB B a W7 := h.blk.block (hg.block _ h.blk.lt (fun e => hBr e.symm))
  have hg2 : W7.grownBy (W7.setCell ⟨B, 4, none⟩ v7) (some B) := grown_cellOf (grown_self _ (some B)) 4 v7
  have f1 := h.drp.kept hg (rows_apart h.drp h.frm (by decide))
  have f2 := h.cam.kept hg (rows_apart h.cam h.frm (by decide))
  have f3 := h.wrt.kept hg (rows_apart h.wrt h.frm (by decide))
  exact ⟨hB7, ⟨hB7.setFrm v7, f3.kept hg2 (.inr (row_not f3 hB7 (fun c e => (by cases e)))), ho.kept hg2 (.inr (row_not ho hB7 (fun c e => (by cases e)))), f2.kept hg2 (.inr (row_not f2 hB7 (fun c e => (by cases e)))), f1.kept hg2 (.inr (row_not f1 hB7 (fun c e => (by cases e))))⟩,
    grown_Fx (Fx.grown hg fun k e => .inr (.inr (.inl e))) hg2 fun i _ e => by cases e; exact .inl rfl⟩

set_option maxRecDepth 100000 in
set_option maxHeartbeats 4000000 in
theorem drop_any (B base : Nat) (a : AcV) (nws : List (Bool × Int × Int)) (frs cms : List (Int × ByteArray)) (drs : List Int) (r : Int) (w : World) (ha : AcM B base a nws frs cms drs w) (hbs : base ≤ w.heap.size) (hd : drs.length ≤ 1000000) :
    Calls Tryz.prog 92 #[.pointer (some ⟨B, 0, none⟩), .int .i64 r] w fun e w' => ∃ v7, e = .returned (.tuple #[]) ∧ AcM B base { a with drp := v7 } nws frs cms (drs ++ [r]) w' ∧ Fx (AcIn B a) w w' := by
  obtain ⟨i0, hi, hz0, hz1, hz2⟩ := info_parts info_rs
  have hbA : Below w.heap.size w (w.alloc (.cells #[.int .i64 r] 195)) := (Below.refl _ _).alloc (Nat.le_refl _) _
  have ha1 := ha.alloc (.cells #[.int .i64 r] 195)
  have hcr := cells_rs w r
  have hrow := ha1.drp
  obtain ⟨c0, c1, c2, c3, c4, c5, c6⟩ := ha.blk.cell
  go_enter Tryz.func92, Tryz.ntmps92
  go_wp2_with (at_builtin; refine wpList_append_own_at _ rfl _ _ 50 rfl base 195 i0 (.int .i64 0) 1 8 Tryz.underlying50 hi hz0 hz1 hz2 rfl (by decide) a.drp drs.length (DrC drs) rfl hrow ⟨w.heap.size, 0, none⟩ 1 1 (DrC [r]) rfl rfl hcr (one_rs [r]) (by unfold maxLen; omega) (by omega) ?c3 ?_)
  case c3 => simp; omega
  intro v7 w7 ho7 hg7 _ _
  rw [← DrC_append] at ho7
  have hll : drs.length + 1 = (drs ++ [r]).length := by simp
  rw [hll] at ho7
  obtain ⟨hB7, hm, hf⟩ := ha1.drops ho7 hg7
  have hf' := (Fx.below (S := AcIn B a) hbA).trans hf (fun i _ h => h)
  obtain ⟨d0, d1, d2, d3, d4, d5, d6⟩ := hB7.cell
  have g6 := hB7.free 6
  obtain ⟨ao7, cc7, hv7, _⟩ := row_form ho7
  generalize (drs ++ [r]).length = nn at hv7
  subst hv7
  clear hll hrow hcr c0 c1 c2 c3 c4 c5 c6 ha1 hB7 hg7 ho7
  go_wp2
  go_returns
  exact ⟨_, rfl, hm, hf'⟩

set_option maxRecDepth 100000 in
set_option maxHeartbeats 4000000 in
theorem send_any (B base : Nat) (a : AcV) (nws : List (Bool × Int × Int)) (frs cms : List (Int × ByteArray)) (drs : List Int) (tt : Int) (p : Pkt) (hp : p.Wf) (L : List (Int × Int)) (w : World) (ha : AcM B base a nws frs cms drs w) (hbs : base ≤ w.heap.size) (hd : frs.length ≤ 1000000) (hL : HoldsL w p L) :
    Calls Tryz.prog 80 #[.pointer (some ⟨B, 0, none⟩), .int .u32 tt, p.val] w fun e w' => ∃ v7, e = .returned (.tuple #[]) ∧ AcM B base { a with frm := v7 } nws (frs ++ [(tt, strOfNums (encX p L))]) cms drs w' ∧ Fx (AcIn B a) w w' := by
  obtain ⟨i0, hi, hz0, hz1, hz2⟩ := info_parts info_fr
  have hb0 : Below w.heap.size w (w.alloc p.box) := (Below.refl _ _).alloc (Nat.le_refl _) _
  have hP := PB.new p w
  have HE := (show Hid _ from fun W hW => Encode_x p hp L W (hL.below hW))
  dsimp only [Pkt.box] at hb0
  unfold PB at hP
  dsimp only [Pkt.box] at hP
  go_enter Tryz.func80, Tryz.ntmps80
  go_upto_region 1 with (fail)
  generalize World.alloc _ _ = W1 at hb0 hP ⊢
  generalize w.heap.size = C at hP ⊢
  obtain ⟨b0, b1, b2, b3, b4, b5, b6, b7, b8, b9, b10, b11⟩ := PB.cell (show PB p C W1 from hP)
  go_wp2_with fail
  refine Calls.mono (HE.out W1 hb0) ?_
  rintro e w2 ⟨ea, en, ec, er, rfl, hb2, hcv⟩
  have hbb := hb0.trans (hb2.mono hb0.size)
  have ha2 := ha.later hbb
  have hcv0 := hcv w2 (Below.refl _ _)
  have hcv1 := hcv w2.drew (Below.refl _ _).drew
  generalize hss : strOfNums (encX p L) = ss at hcv0 hcv1
  have hss' := (show Hid _ from hss)
  clear hss hcv hb0 hb2 hP b0 b1 b2 b3 b4 b5 b6 b7 b8 b9 b10 b11 HE
  have hz := hbb.size
  have c4 := ha2.blk.cell.2.2.2.2.1
  have haT := fun o => (ha2.alloc o).blk.cell.2.2.2.2.1
  have hrow := fun o => (ha2.alloc o).drew.frm
  have hcf := fun W => cells_fr W tt ss
  have hbA : Hid (∀ o : Obj, base ≤ (w2.alloc o).drew.heap.size) := by
    intro o
    show base ≤ (w2.alloc o).heap.size
    rw [World.size_alloc]
    omega
  have HF : Hid (∀ v7 w7, w7.ownsRow base 77 2 v7 (frs.length + 1) (FrC frs ++ FrC [(tt, ss)]) → (w2.alloc (.cells #[.int .u32 tt, .string ss] 77)).drew.grownBy w7 a.frm.ownBlock → (w7.cell? ⟨B, 4, none⟩ = some a.frm ∧ w7.frozen? ⟨B, 4, none⟩ = false) ∧ AcM B base { a with frm := v7 } nws (frs ++ [(tt, ss)]) cms drs (w7.setCell ⟨B, 4, none⟩ v7) ∧ Fx (AcIn B a) w (w7.setCell ⟨B, 4, none⟩ v7)) := by
    intro v7 w7 ho7 hg7
    rw [← FrC_append, show frs.length + 1 = (frs ++ [(tt, ss)]).length by simp] at ho7
    have hb3 : Below w2.heap.size w2 (w2.alloc (.cells #[.int .u32 tt, .string ss] 77)).drew := ((Below.refl _ _).alloc (Nat.le_refl _) _).drew
    obtain ⟨hB7, hm, hf⟩ := (ha2.later hb3).sends ho7 hg7
    exact ⟨⟨hB7.cell.2.2.2.2.1, hB7.free 4⟩, hm, ((Fx.below (S := AcIn B a) hbb).trans (Fx.below (S := AcIn B a) hb3) (fun _ _ h => h)).trans hf (fun _ _ h => h)⟩
  clear ha ha2 hbb
  go_wp2_with fail
  go_region_law (refine step_append_at rfl (.tmp 18) (.tmp 23) 48 rfl base 77 i0 (.agg #[.int .u32 0, .string ⟨#[]⟩]) 2 24 Tryz.underlying48 hi hz0 hz1 hz2 rfl (by decide) a.frm frs.length (FrC frs) (by simp [Act.eval]) (hrow _) ⟨_, 0, none⟩ 1 1 (FrC [(tt, ss)]) (by simp [Act.eval]) rfl (hcf _) (one_fr _) (by unfold maxLen; omega) (by omega) (hbA.out _) ?_; intro v7 w7 ho7 hg7 _; obtain ⟨⟨g1, g2⟩, hm, hf⟩ := HF.out _ _ ho7 hg7; obtain ⟨ao7, cc7, rfl, _⟩ := row_form ho7)
  all_goals
    rw [← hss'.out] at hm
    generalize World.setCell _ _ _ = w8 at hm hf ⊢
    clear g1 g2 hg7 ho7
    go_wp2
    go_returns
    exact ⟨_, rfl, hm, hf⟩
end Go.Proofs.YtakaadcpaeiccabGreat

namespace Go.Proofs.YtakaadcpaeiccabGreat
open Go.RowKit Go.Maps

/-- The number of a destination's line; 0 without one. -/
def numL (A : List Rt) (d : Int) : Int := ((lineOf A d).map (·.seq)).getD 0
set_option maxHeartbeats 1000000 in
theorem tnum_any {me : Int} {T M : Nat} {f : Int → Option Nat} {g : Int → Value} {A : List Rt} {w : World} (h : MT me T M f g A w) (d : Int) (hd : U32 d) :
    Calls Tryz.prog 157 #[.pointer (some ⟨T, 0, none⟩), .int .u32 d] w fun e w' => e = .returned (.tuple #[.int .u32 (numL A d), .bool (lineOf A d).isSome]) ∧ w' = w := by
  obtain ⟨t0, t1⟩ := h.blk.cell
  have hlk := h.map.look hd
  cases hl : lineOf A d with
  | none =>
    rw [h.off hd hl] at hlk
    simp only [ptrOf] at hlk
    have hn : numL A d = 0 := by simp [numL, hl]
    rw [hn]
    clear h hn hl
    go_enter Tryz.func157, Tryz.ntmps157
    go_wp2
    go_ret2
    exact ⟨rfl, rfl⟩
  | some x =>
    obtain ⟨_, _, B, hB, hL, _⟩ := h.line hl
    rw [hB] at hlk
    simp only [ptrOf] at hlk
    obtain ⟨b0, b1, b2, b3, b4, b5, b6⟩ := hL.cell
    have hn : numL A d = x.seq := by simp [numL, hl]
    rw [hn]
    clear h hn hl hL hB
    go_enter Tryz.func157, Tryz.ntmps157
    go_wp2
    go_ret2
    exact ⟨rfl, rfl⟩

set_option maxRecDepth 100000 in
set_option maxHeartbeats 2000000 in
theorem nlost_any (N : Nat) (x : NdV) {M : Nat} {ff : Int → Option Nat} {gg : Int → Value} {A : List Rt} {f : Int → Option Int} {sz : Nat} {w : World} (hn : NdM N x M ff gg A f sz w) (d : Int) (hd : U32 d) :
    Calls Tryz.prog 159 #[.pointer (some ⟨N, 0, none⟩), .int .u32 d] w fun e w' => e = .returned (.agg #[.int .u32 d, .int .u32 (numL A d)]) ∧ Below w.heap.size w w' := by
  have hb0 : Below w.heap.size w (w.alloc (.cells #[.int .u32 0, .int .u32 0] 237)) := (Below.refl _ _).alloc (Nat.le_refl _) _
  have hn1 := hn.later hb0
  have hC : (w.alloc (.cells #[.int .u32 0, .int .u32 0] 237)).heap[w.heap.size]? = some (.cells #[.int .u32 0, .int .u32 0] 237) := heap_alloc_new _ _
  go_enter Tryz.func159, Tryz.ntmps159
  go_upto_region 1 with (fail)
  generalize World.alloc _ _ = W1 at hb0 hn1 hC ⊢
  obtain ⟨n0, n2, n3, n4, n5, n6, n7, n8, n9, n10⟩ := hn1.nd.cell
  have q0 : W1.cell? ⟨w.heap.size, 0, none⟩ = some (.int .u32 0) := cell_of_row W1 w.heap.size 0 _ _ _ hC
  have q1 : W1.cell? ⟨w.heap.size, 1, none⟩ = some (.int .u32 0) := cell_of_row W1 w.heap.size 1 _ _ _ hC
  have f0 := frozen_of_row W1 w.heap.size 0 _ _ hC
  have f1 := frozen_of_row W1 w.heap.size 1 _ _ hC
  go_wp2_with fail
  refine Calls.mono (tnum_any hn1.tb d hd) ?_
  rintro e w2 ⟨rfl, rfl⟩
  have hb2 : Below w.heap.size w ((w2.setCell ⟨w.heap.size, 0, none⟩ (.int .u32 d)).setCell ⟨w.heap.size, 1, none⟩ (.int .u32 (numL A d))) := (hb0.setCell (p := ⟨w.heap.size, 0, none⟩) (Nat.le_refl _) _).setCell (p := ⟨w.heap.size, 1, none⟩) (Nat.le_refl _) _
  have hC2 : ((w2.setCell ⟨w.heap.size, 0, none⟩ (.int .u32 d)).setCell ⟨w.heap.size, 1, none⟩ (.int .u32 (numL A d))).heap[w.heap.size]? = some (.cells #[.int .u32 d, .int .u32 (numL A d)] 237) := by
    simp [World.setCell, Array.getElem?_modify, hC]
  clear hn1 n0 n2 n3 n4 n5 n6 n7 n8 n9 n10
  go_wp2
  generalize World.setCell _ _ _ = W3 at hb2 hC2 ⊢
  have p0 : W3.cell? ⟨w.heap.size, 0, none⟩ = some (.int .u32 d) := cell_of_row W3 w.heap.size 0 _ _ _ hC2
  have p1 : W3.cell? ⟨w.heap.size, 1, none⟩ = some (.int .u32 (numL A d)) := cell_of_row W3 w.heap.size 1 _ _ _ hC2
  exact bodyPost_ret (v := .agg #[.int .u32 d, .int .u32 (numL A d)]) (by simp [results, Tryz.results159, go_sem, p0, p1]) rfl ⟨rfl, hb2⟩

/-- The packet that tells what is lost. -/
def lsP (n : Nat) : Pkt := ⟨1, 3, 0, false, 0, 0, 0, 0, 0, 0, none, n, 0, ⟨#[]⟩⟩
theorem lsP_wf (n : Nat) (hn : n ≤ 65536) (ao : Option Addr) (c : Nat) : ({ lsP n with la := ao, lc := c } : Pkt).Wf := by
  have hz : (⟨#[]⟩ : ByteArray).size = 0 := rfl
  constructor <;> (dsimp only [lsP]; omega)
theorem encX_la (p : Pkt) (ao : Option Addr) (c : Nat) (L : List (Int × Int)) : encX { p with la := ao, lc := c } L = encX p L := by
  unfold encX
  rw [goodB_la]
  rfl
/-- The frame that tells what is lost. -/
def lsB (L : List (Int × Int)) : ByteArray := strOfNums (encX (lsP L.length) L)
def lsF (tt : Int) (L : List (Int × Int)) : List (Int × ByteArray) := if L.length = 0 then [] else [(tt, lsB L)]

set_option maxRecDepth 100000 in
set_option maxHeartbeats 2000000 in
theorem lose_any (B base : Nat) (a : AcV) (nws : List (Bool × Int × Int)) (frs cms : List (Int × ByteArray)) (drs : List Int) (tt : Int) (ao : Option Addr) (c : Nat) (L : List (Int × Int)) (w : World) (ha : AcM B base a nws frs cms drs w) (hbs : base ≤ w.heap.size) (hd : frs.length ≤ 1000000) (hn : L.length ≤ 65536) (hL : HoldsA w ao L) :
    Calls Tryz.prog 137 #[.pointer (some ⟨B, 0, none⟩), .int .u32 tt, .slice ao L.length c] w fun e w' => ∃ v7, e = .returned (.tuple #[]) ∧ AcM B base { a with frm := v7 } nws (frs ++ lsF tt L) cms drs w' ∧ Fx (AcIn B a) w w' := by
  by_cases h0 : L.length = 0
  · have hf : lsF tt L = [] := by simp [lsF, h0]
    rw [hf, List.append_nil]
    rw [h0]
    clear hf
    go_enter Tryz.func137, Tryz.ntmps137
    go_wp2
    go_returns
    exact ⟨a.frm, rfl, ha, Fx.refl _ _⟩
  · have hf : lsF tt L = [(tt, strOfNums (encX { lsP L.length with la := ao, lc := c } L))] := by
      rw [encX_la]
      simp [lsF, h0, lsB]
    have hpos : (0 : Int) < (L.length : Int) := by omega
    rw [hf]
    have HS := (show Hid _ from send_any B base a nws frs cms drs tt { lsP L.length with la := ao, lc := c } (lsP_wf _ hn ao c) L w ha hbs hd ⟨rfl, hL⟩)
    clear hf hL
    dsimp only [lsP, Pkt.val] at HS
    go_enter Tryz.func137, Tryz.ntmps137
    go_wp2_with fail
    refine Calls.mono HS.out ?_
    rintro e w' ⟨v7, rfl, h1, h2⟩
    go_wp2
    go_returns
    exact ⟨v7, rfl, h1, h2⟩
end Go.Proofs.YtakaadcpaeiccabGreat
