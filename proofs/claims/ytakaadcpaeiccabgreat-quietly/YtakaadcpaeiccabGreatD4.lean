import Derived.Test.YtakaadcpaeiccabGreatD2
import Derived.Test.YtakaadcpaeiccabGreatB1
import Derived.Test.YtakaadcpaeiccabGreatGV
namespace Go.Proofs.YtakaadcpaeiccabGreat
open Go.RowKit

theorem Rd.alloc {R : Nat} {xs : List Int} {W : World} (h : Rd R xs W) (o : Obj) : Rd R xs (W.alloc o) := by
  obtain ⟨v, h1, h2, hb, h3⟩ := h
  have hlt := World.block_lt_of_cell? W _ h1
  refine ⟨v, (World.cell?_alloc_lt _ _ _ hlt).trans h1, (World.frozen?_alloc_old W o _ (by simp at hlt ⊢; omega)).trans h2, hb, ?_⟩
  rcases h3 with h | ⟨b, o', c, rfl, k1, k2, k3⟩
  · exact .inl h
  · exact .inr ⟨b, o', c, rfl, k1, k2, fun j x hx => (World.cell?_alloc_lt _ _ _ (World.block_lt_of_cell? W _ (k3 j x hx))).trans (k3 j x hx)⟩

theorem Rd.setCell {R : Nat} {xs : List Int} {W : World} (h : Rd R xs W) {B : Nat} (hB : B ≠ R) {i : Nat} (u u' : Value) (hu : ∀ n, u ≠ .int .u8 n) (hc : W.cell? ⟨B, i, none⟩ = some u) : Rd R xs (W.setCell ⟨B, i, none⟩ u') := by
  obtain ⟨v, h1, h2, hb, h3⟩ := h
  refine ⟨v, (World.cell?_setCell_other _ _ _ _ (fun e => hB (by cases e; rfl))).trans h1, (World.frozen?_setCell _ _ _ _).trans h2, hb, ?_⟩
  rcases h3 with h | ⟨b, o', c, rfl, k1, k2, k3⟩
  · exact .inl h
  · refine .inr ⟨b, o', c, rfl, k1, k2, fun j x hx => ?_⟩
    have hk := k3 j x hx
    rw [World.cell?_setCell_other _ _ _ _ (fun e => by rw [← e, hc] at hk; exact hu _ (Option.some.inj hk))]
    exact hk

theorem Rd.drew {R : Nat} {xs : List Int} {W : World} (h : Rd R xs W) : Rd R xs W.drew := h
theorem PB.drew {p : Pkt} {B : Nat} {W : World} (h : W.heap[B]? = some p.box) : W.drew.heap[B]? = some p.box := h

theorem Rd.lt {R : Nat} {xs : List Int} {W : World} (h : Rd R xs W) : R < W.heap.size := by
  obtain ⟨v, h1, _⟩ := h
  exact World.block_lt_of_cell? W _ h1

/-- A packet in a block of its own. -/
def PB (p : Pkt) (B : Nat) (W : World) : Prop := W.heap[B]? = some p.box
theorem PB.new (p : Pkt) (W : World) : PB p W.heap.size (W.alloc p.box) := heap_alloc_new W _
theorem PB.lt {p : Pkt} {B : Nat} {W : World} (h : PB p B W) : B < W.heap.size := (Array.getElem?_eq_some_iff.1 h).1
theorem PB.grown {p : Pkt} {B R : Nat} {W W' : World} (h : PB p B W) (hg : W.grownBy W' (some R)) (hne : B ≠ R) : PB p B W' := (hg.block B h.lt (by simpa using hne)).trans h
theorem PB.alloc {p : Pkt} {B : Nat} {W : World} (h : PB p B W) (o : Obj) : PB p B (W.alloc o) := (Below.heap_alloc W o B h.lt).trans h
theorem PB.cell {p : Pkt} {B : Nat} {W : World} (h : PB p B W) : InC p B W := by
  have k := fun i => cell_of_row W B i _ _ _ h
  exact ⟨k 0, k 1, k 2, k 3, k 4, k 5, k 6, k 7, k 8, k 9, k 10, k 11⟩
theorem PB.free {p : Pkt} {B : Nat} {W : World} (h : PB p B W) (i : Nat) : W.frozen? ⟨B, i, none⟩ = false := frozen_of_row W B i _ _ h
theorem PB.other {p : Pkt} {B : Nat} {W : World} (h : PB p B W) {a : Addr} (ha : B ≠ a.block) (v : Value) : PB p B (W.setCell a v) := (Below.heap_setCell W a v B ha).trans h

/-- No packet yet. -/
def Pkt.zero : Pkt := ⟨0, 0, 0, false, 0, 0, 0, 0, 0, 0, none, 0, 0, ⟨#[]⟩⟩

theorem PB.set {p : Pkt} {B : Nat} {W : World} (h : PB p B W) (q : Pkt) (i : Nat) (v : Value) (hq : Obj.cells ((#[.int .i64 p.ttl, .int .i64 p.kind, .int .i64 p.hops, .bool p.unk, .int .u32 p.id, .int .u32 p.dest, .int .u32 p.dseq, .int .u32 p.frm, .int .u32 p.fseq, .int .u32 p.life, .slice p.la p.ln p.lc, .string p.pay] : Array Value).setIfInBounds i v) 73 (0, 0) = q.box) :
    PB q B (W.setCell ⟨B, i, none⟩ v) := by
  unfold PB
  rw [heap_setCell_same W B i _ _ v h]
  rw [hq]

theorem one_cons (R : Nat) (x : Int) (ys : List Int) (W : World) (h : Rd R (x :: ys) W) :
    Calls Tryz.prog 84 #[.pointer (some ⟨R, 0, none⟩)] W fun e w' => e = .returned (.int .i64 x) ∧ Rd R ys w' ∧ W.grownBy w' (some R) := by
  refine (one_any R _ W h).mono ?_
  rintro e w' (⟨x', ys', hx, _, _, rfl, h1, h2, _⟩ | ⟨hx, _⟩)
  · obtain ⟨rfl, rfl⟩ := List.cons.inj hx
    exact ⟨rfl, h1, h2⟩
  · cases hx
theorem one_nil (R : Nat) (W : World) (h : Rd R [] W) :
    Calls Tryz.prog 84 #[.pointer (some ⟨R, 0, none⟩)] W fun e w' => e = .panicked broken ∧ w' = W := by
  refine (one_any R _ W h).mono ?_
  rintro e w' (⟨x', ys', hx, _⟩ | ⟨_, rfl, rfl⟩)
  · cases hx
  · exact ⟨rfl, rfl⟩

/-- The i-th number of bytes. -/
def num (r : List Int) (i : Nat) : Int := n4 (r.getD (4 * i) 0) (r.getD (4 * i + 1) 0) (r.getD (4 * i + 2) 0) (r.getD (4 * i + 3) 0)

/-- The packet that bytes spell: the first, the second, the third, the fifth, and what follows. -/
def pkOf (x0 x1 x2 x4 : Int) (r : List Int) : Pkt :=
  if x1 = 1 then ⟨x0, 1, x4, x2 == 8, num r 0, num r 1, num r 2, num r 3, num r 4, 0, none, 0, 0, ⟨#[]⟩⟩
  else if x1 = 2 then ⟨x0, 2, x4, x2 == 8, 0, num r 0, num r 1, num r 2, 0, num r 3, none, 0, 0, ⟨#[]⟩⟩
  else if x1 = 3 then ⟨x0, 3, 0, x2 == 8, 0, 0, 0, 0, 0, 0, none, x4.toNat, 0, ⟨#[]⟩⟩
  else if x1 = 9 then ⟨x0, 9, 0, x2 == 8, num r 0, num r 1, 0, num r 2, 0, 0, none, 0, 0, strOfNums ((r.drop 12).take x4.toNat)⟩
  else ⟨x0, x1, 0, x2 == 8, 0, 0, 0, 0, 0, 0, none, 0, 0, ⟨#[]⟩⟩

/-- The list that bytes spell. -/
def plOf (n : Nat) (r : List Int) : List (Int × Int) := (List.range n).map fun i => (num r (2 * i), num r (2 * i + 1))
def lsOf (x1 x4 : Int) (r : List Int) : List (Int × Int) := if x1 = 3 then plOf x4.toNat r else []

/-- How many bytes follow the first five. -/
def needOf (x1 x4 : Int) : Nat := if x1 = 1 then 20 else if x1 = 2 then 16 else if x1 = 3 then 8 * x4.toNat else if x1 = 9 then 12 + x4.toNat else 0

/-- Are these bytes a frame? -/
def isF (xs : List Int) : Bool :=
  match xs with
  | x0 :: x1 :: x2 :: x3 :: x4 :: r => decide (x2 = 0 ∨ x2 = 8) && decide (x3 = 0) && decide (r.length = needOf x1 x4) && (pkOf x0 x1 x2 x4 r).goodB
  | _ => false

theorem grown_trans' {A B C : World} {r : Option Nat} (h : A.grownBy B r) (k : B.grownBy C r) : A.grownBy C r :=
  ⟨k.os.trans h.os, k.tape.trans h.tape, k.output.trans h.output, Nat.le_trans h.size k.size, fun i hi hne => (k.block i (Nat.lt_of_lt_of_le hi h.size) hne).trans (h.block i hi hne)⟩
theorem isF_len {x0 x1 x2 x3 x4 : Int} {r : List Int} (h : r.length ≠ needOf x1 x4) : isF (x0 :: x1 :: x2 :: x3 :: x4 :: r) = false := by
  simp [isF, h]
theorem isF_eq {x0 x1 x2 x4 : Int} {r : List Int} (hf : x2 = 0 ∨ x2 = 8) (h : r.length = needOf x1 x4) : isF (x0 :: x1 :: x2 :: 0 :: x4 :: r) = (pkOf x0 x1 x2 x4 r).goodB := by
  simp [isF, h, hf]
theorem Rd.bytes {R : Nat} {xs : List Int} {W : World} (h : Rd R xs W) : ∀ x ∈ xs, 0 ≤ x ∧ x ≤ 255 := by
  obtain ⟨_, _, _, hb, _⟩ := h
  exact hb
theorem n4_b {a b c d : Int} (ha : 0 ≤ a ∧ a ≤ 255) (hb : 0 ≤ b ∧ b ≤ 255) (hc : 0 ≤ c ∧ c ≤ 255) (hd : 0 ≤ d ∧ d ≤ 255) : 0 ≤ n4 a b c d ∧ n4 a b c d < 4294967296 := by
  unfold n4
  omega
theorem PB.below {p : Pkt} {B : Nat} {W W' : World} (h : PB p B W) (hb : Below W.heap.size W W') : PB p B W' := (hb.block B h.lt).trans h
theorem grown_below {A B C : World} {r : Option Nat} (h : A.grownBy B r) (k : Below B.heap.size B C) : A.grownBy C r :=
  grown_trans' h ⟨k.os, k.tape, k.output, k.size, fun i hi _ => k.block i hi⟩

/-- What is read: the packet, its list elsewhere. -/
def Reads (xs : List Int) (v : Value) (W : World) (N : Nat) : Prop :=
  ∃ x0 x1 x2 x3 x4 r ao c, xs = x0 :: x1 :: x2 :: x3 :: x4 :: r ∧ v = ({ pkOf x0 x1 x2 x4 r with la := ao, lc := c } : Pkt).val ∧
    (lsOf x1 x4 r).length = (pkOf x0 x1 x2 x4 r).ln ∧ HoldsA W ao (lsOf x1 x4 r) ∧ ∀ b, ao = some b → N ≤ b.block

def PacketP (R : Nat) (xs : List Int) (W : World) (e : Ending) (w' : World) : Prop :=
  W.grownBy w' (some R) ∧ ((isF xs = true ∧ ∃ v, e = .returned v ∧ Reads xs v w' W.heap.size) ∨ (isF xs = false ∧ e = .panicked broken))
theorem grown_trans {A B C : World} {r : Option Nat} (h : A.grownBy B r) (k : B.grownBy C r) : A.grownBy C r := grown_trans' h k
theorem grown_drew {A B : World} {r : Option Nat} (h : A.grownBy B r) : A.grownBy B.drew r := ⟨h.os, h.tape, h.output, h.size, h.block⟩
/-- A store into what is new. -/
theorem grown_new {A B : World} {r : Option Nat} (h : A.grownBy B r) {a : Addr} (ha : A.heap.size ≤ a.block) (v : Value) : A.grownBy (B.setCell a v) r :=
  ⟨h.os, h.tape, h.output, by simpa using h.size, fun i hi hne => (Below.heap_setCell B a v i (by omega)).trans (h.block i hi hne)⟩
/-- A packet stored whole. -/
@[reducible] def store12 (w : World) (C : Nat) (p : Pkt) : World :=
  ((((((((((((w.setCell ⟨C, 0, none⟩ (.int .i64 p.ttl)).setCell ⟨C, 1, none⟩ (.int .i64 p.kind)).setCell ⟨C, 2, none⟩ (.int .i64 p.hops)).setCell ⟨C, 3, none⟩ (.bool p.unk)).setCell ⟨C, 4, none⟩ (.int .u32 p.id)).setCell ⟨C, 5, none⟩ (.int .u32 p.dest)).setCell ⟨C, 6, none⟩ (.int .u32 p.dseq)).setCell ⟨C, 7, none⟩ (.int .u32 p.frm)).setCell ⟨C, 8, none⟩ (.int .u32 p.fseq)).setCell ⟨C, 9, none⟩ (.int .u32 p.life)).setCell ⟨C, 10, none⟩ (.slice p.la p.ln p.lc)).setCell ⟨C, 11, none⟩ (.string p.pay))
theorem PB.storeAll {z : Pkt} {C : Nat} {w : World} (h : PB z C w) (p : Pkt) : PB p C (store12 w C p) := by
  have h0 := PB.set h ⟨p.ttl, z.kind, z.hops, z.unk, z.id, z.dest, z.dseq, z.frm, z.fseq, z.life, z.la, z.ln, z.lc, z.pay⟩ 0 (.int .i64 p.ttl) rfl
  have h1 := PB.set h0 ⟨p.ttl, p.kind, z.hops, z.unk, z.id, z.dest, z.dseq, z.frm, z.fseq, z.life, z.la, z.ln, z.lc, z.pay⟩ 1 (.int .i64 p.kind) rfl
  have h2 := PB.set h1 ⟨p.ttl, p.kind, p.hops, z.unk, z.id, z.dest, z.dseq, z.frm, z.fseq, z.life, z.la, z.ln, z.lc, z.pay⟩ 2 (.int .i64 p.hops) rfl
  have h3 := PB.set h2 ⟨p.ttl, p.kind, p.hops, p.unk, z.id, z.dest, z.dseq, z.frm, z.fseq, z.life, z.la, z.ln, z.lc, z.pay⟩ 3 (.bool p.unk) rfl
  have h4 := PB.set h3 ⟨p.ttl, p.kind, p.hops, p.unk, p.id, z.dest, z.dseq, z.frm, z.fseq, z.life, z.la, z.ln, z.lc, z.pay⟩ 4 (.int .u32 p.id) rfl
  have h5 := PB.set h4 ⟨p.ttl, p.kind, p.hops, p.unk, p.id, p.dest, z.dseq, z.frm, z.fseq, z.life, z.la, z.ln, z.lc, z.pay⟩ 5 (.int .u32 p.dest) rfl
  have h6 := PB.set h5 ⟨p.ttl, p.kind, p.hops, p.unk, p.id, p.dest, p.dseq, z.frm, z.fseq, z.life, z.la, z.ln, z.lc, z.pay⟩ 6 (.int .u32 p.dseq) rfl
  have h7 := PB.set h6 ⟨p.ttl, p.kind, p.hops, p.unk, p.id, p.dest, p.dseq, p.frm, z.fseq, z.life, z.la, z.ln, z.lc, z.pay⟩ 7 (.int .u32 p.frm) rfl
  have h8 := PB.set h7 ⟨p.ttl, p.kind, p.hops, p.unk, p.id, p.dest, p.dseq, p.frm, p.fseq, z.life, z.la, z.ln, z.lc, z.pay⟩ 8 (.int .u32 p.fseq) rfl
  have h9 := PB.set h8 ⟨p.ttl, p.kind, p.hops, p.unk, p.id, p.dest, p.dseq, p.frm, p.fseq, p.life, z.la, z.ln, z.lc, z.pay⟩ 9 (.int .u32 p.life) rfl
  have h10 := PB.set h9 ⟨p.ttl, p.kind, p.hops, p.unk, p.id, p.dest, p.dseq, p.frm, p.fseq, p.life, p.la, p.ln, p.lc, z.pay⟩ 10 (.slice p.la p.ln p.lc) rfl
  have h11 := PB.set h10 ⟨p.ttl, p.kind, p.hops, p.unk, p.id, p.dest, p.dseq, p.frm, p.fseq, p.life, p.la, p.ln, p.lc, p.pay⟩ 11 (.string p.pay) rfl
  exact h11
theorem grown_store {A B : World} {r : Option Nat} (h : A.grownBy B r) {C : Nat} (hC : A.heap.size ≤ C) (p : Pkt) : A.grownBy (store12 B C p) r :=
  grown_new (grown_new (grown_new (grown_new (grown_new (grown_new (grown_new (grown_new (grown_new (grown_new (grown_new (grown_new h hC _) hC _) hC _) hC _) hC _) hC _) hC _) hC _) hC _) hC _) hC _) hC _

end Go.Proofs.YtakaadcpaeiccabGreat
