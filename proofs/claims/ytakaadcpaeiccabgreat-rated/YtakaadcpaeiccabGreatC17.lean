import Derived.Test.YtakaadcpaeiccabGreatC05
import Derived.Test.YtakaadcpaeiccabGreatC04
import Derived.Test.YtakaadcpaeiccabGreatC16
import Derived.Test.YtakaadcpaeiccabGreatC13
import Derived.Test.YtakaadcpaeiccabGreatC06
namespace Go.Proofs.YtakaadcpaeiccabGreat
open Go.RowKit

theorem Rd.alloc {R : Nat} {xs : List Int} {W : World} (h : Rd R xs W) (o : Obj) : Rd R xs (W.alloc o) := by
  obtain ⟨v, h1, h2, hb, h3⟩ := h
  have hlt := World.block_lt_of_cell? W _ h1
  refine ⟨v, (World.cell?_alloc_lt _ _ _ hlt).trans h1, (World.frozen?_alloc_old W o _ (by simp at hlt ⊢; omega)).trans h2, hb, ?_⟩
  rcases h3 with h | ⟨b, o', c, rfl, k1, k2, k3⟩
  · exact .inl h
  · exact .inr ⟨b, o', c, rfl, k1, k2, fun j x hx => (World.cell?_alloc_lt _ _ _ (World.block_lt_of_cell? W _ (k3 j x hx))).trans (k3 j x hx)⟩

theorem Rd.setCell {R : Nat} {xs : List Int} {W : World} (h : Rd R xs W) {B : Nat} (hB : B ≠ R) {i : Nat} (u u' : Value) (hu : ∀ n, u ≠ .int .u8 n) (hc : W.cell? ⟨B, i, none⟩ = some u) : Rd R xs (W.setCell ⟨B, i, none⟩ u') := by
  obtain ⟨v, h1, h2, hb, h3⟩ := h
  refine ⟨v, (World.cell?_setCell_other _ _ _ _ (fun e => hB (by cases e; rfl))).trans h1, (World.frozen?_setCell _ _ _ _).trans h2, hb, ?_⟩
  rcases h3 with h | ⟨b, o', c, rfl, k1, k2, k3⟩
  · exact .inl h
  · refine .inr ⟨b, o', c, rfl, k1, k2, fun j x hx => ?_⟩
    have hk := k3 j x hx
    rw [World.cell?_setCell_other _ _ _ _ (fun e => by rw [← e, hc] at hk; exact hu _ (Option.some.inj hk))]
    exact hk

theorem Rd.drew {R : Nat} {xs : List Int} {W : World} (h : Rd R xs W) : Rd R xs W.drew := h
theorem PB.drew {p : Pkt} {B : Nat} {W : World} (h : W.heap[B]? = some p.box) : W.drew.heap[B]? = some p.box := h

theorem Rd.lt {R : Nat} {xs : List Int} {W : World} (h : Rd R xs W) : R < W.heap.size := by
  obtain ⟨v, h1, _⟩ := h
  exact World.block_lt_of_cell? W _ h1

/-- A packet in a block of its own. -/
def PB (p : Pkt) (B : Nat) (W : World) : Prop := W.heap[B]? = some p.box
theorem PB.new (p : Pkt) (W : World) : PB p W.heap.size (W.alloc p.box) := heap_alloc_new W _
theorem PB.lt {p : Pkt} {B : Nat} {W : World} (h : PB p B W) : B < W.heap.size := (Array.getElem?_eq_some_iff.1 h).1
theorem PB.grown {p : Pkt} {B R : Nat} {W W' : World} (h : PB p B W) (hg : W.grownBy W' (some R)) (hne : B ≠ R) : PB p B W' := (hg.block B h.lt (by simpa using hne)).trans h
theorem PB.alloc {p : Pkt} {B : Nat} {W : World} (h : PB p B W) (o : Obj) : PB p B (W.alloc o) := (Below.heap_alloc W o B h.lt).trans h
theorem PB.cell {p : Pkt} {B : Nat} {W : World} (h : PB p B W) : InC p B W := by
  have k := fun i => cell_of_row W B i _ _ _ h
  exact ⟨k 0, k 1, k 2, k 3, k 4, k 5, k 6, k 7, k 8, k 9, k 10, k 11⟩
theorem PB.free {p : Pkt} {B : Nat} {W : World} (h : PB p B W) (i : Nat) : W.frozen? ⟨B, i, none⟩ = false := frozen_of_row W B i _ _ h
theorem PB.other {p : Pkt} {B : Nat} {W : World} (h : PB p B W) {a : Addr} (ha : B ≠ a.block) (v : Value) : PB p B (W.setCell a v) := (Below.heap_setCell W a v B ha).trans h

/-- No packet yet. -/
def Pkt.zero : Pkt := ⟨0, 0, 0, false, 0, 0, 0, 0, 0, 0, none, 0, 0, ⟨#[]⟩⟩

theorem PB.set {p : Pkt} {B : Nat} {W : World} (h : PB p B W) (q : Pkt) (i : Nat) (v : Value) (hq : Obj.cells ((#[.int .i64 p.ttl, .int .i64 p.kind, .int .i64 p.hops, .bool p.unk, .int .u32 p.id, .int .u32 p.dest, .int .u32 p.dseq, .int .u32 p.frm, .int .u32 p.fseq, .int .u32 p.life, .slice p.la p.ln p.lc, .string p.pay] : Array Value).setIfInBounds i v) 73 (0, 0) = q.box) :
    PB q B (W.setCell ⟨B, i, none⟩ v) := by
  unfold PB
  rw [heap_setCell_same W B i _ _ v h]
  rw [hq]

theorem one_cons (R : Nat) (x : Int) (ys : List Int) (W : World) (h : Rd R (x :: ys) W) :
    Calls Tryz.prog 84 #[.pointer (some ⟨R, 0, none⟩)] W fun e w' => e = .returned (.int .i64 x) ∧ Rd R ys w' ∧ W.grownBy w' (some R) := by
  refine (one_any R _ W h).mono ?_
  rintro e w' (⟨x', ys', hx, _, _, rfl, h1, h2, _⟩ | ⟨hx, _⟩)
  · obtain ⟨rfl, rfl⟩ := List.cons.inj hx
    exact ⟨rfl, h1, h2⟩
  · cases hx
theorem one_nil (R : Nat) (W : World) (h : Rd R [] W) :
    Calls Tryz.prog 84 #[.pointer (some ⟨R, 0, none⟩)] W fun e w' => e = .panicked broken ∧ w' = W := by
  refine (one_any R _ W h).mono ?_
  rintro e w' (⟨x', ys', hx, _⟩ | ⟨_, rfl, rfl⟩)
  · cases hx
  · exact ⟨rfl, rfl⟩

/-- The i-th number of bytes. -/
def num (r : List Int) (i : Nat) : Int := n4 (r.getD (4 * i) 0) (r.getD (4 * i + 1) 0) (r.getD (4 * i + 2) 0) (r.getD (4 * i + 3) 0)

/-- The packet that bytes spell: the first, the second, the third, the fifth, and what follows. -/
def pkOf (x0 x1 x2 x4 : Int) (r : List Int) : Pkt :=
  if x1 = 1 then ⟨x0, 1, x4, x2 == 8, num r 0, num r 1, num r 2, num r 3, num r 4, 0, none, 0, 0, ⟨#[]⟩⟩
  else if x1 = 2 then ⟨x0, 2, x4, x2 == 8, 0, num r 0, num r 1, num r 2, 0, num r 3, none, 0, 0, ⟨#[]⟩⟩
  else if x1 = 3 then ⟨x0, 3, 0, x2 == 8, 0, 0, 0, 0, 0, 0, none, x4.toNat, 0, ⟨#[]⟩⟩
  else if x1 = 9 then ⟨x0, 9, 0, x2 == 8, num r 0, num r 1, 0, num r 2, 0, 0, none, 0, 0, strOfNums ((r.drop 12).take x4.toNat)⟩
  else ⟨x0, x1, 0, x2 == 8, 0, 0, 0, 0, 0, 0, none, 0, 0, ⟨#[]⟩⟩

/-- The list that bytes spell. -/
def plOf (n : Nat) (r : List Int) : List (Int × Int) := (List.range n).map fun i => (num r (2 * i), num r (2 * i + 1))
def lsOf (x1 x4 : Int) (r : List Int) : List (Int × Int) := if x1 = 3 then plOf x4.toNat r else []

/-- How many bytes follow the first five. -/
def needOf (x1 x4 : Int) : Nat := if x1 = 1 then 20 else if x1 = 2 then 16 else if x1 = 3 then 8 * x4.toNat else if x1 = 9 then 12 + x4.toNat else 0

/-- Are these bytes a frame? -/
def isF (xs : List Int) : Bool :=
  match xs with
  | x0 :: x1 :: x2 :: x3 :: x4 :: r => decide (x2 = 0 ∨ x2 = 8) && decide (x3 = 0) && decide (r.length = needOf x1 x4) && (pkOf x0 x1 x2 x4 r).goodB
  | _ => false

theorem grown_trans' {A B C : World} {r : Option Nat} (h : A.grownBy B r) (k : B.grownBy C r) : A.grownBy C r :=
  ⟨k.os.trans h.os, k.tape.trans h.tape, k.output.trans h.output, Nat.le_trans h.size k.size, fun i hi hne => (k.block i (Nat.lt_of_lt_of_le hi h.size) hne).trans (h.block i hi hne)⟩
theorem isF_len {x0 x1 x2 x3 x4 : Int} {r : List Int} (h : r.length ≠ needOf x1 x4) : isF (x0 :: x1 :: x2 :: x3 :: x4 :: r) = false := by
  simp [isF, h]
theorem isF_eq {x0 x1 x2 x4 : Int} {r : List Int} (hf : x2 = 0 ∨ x2 = 8) (h : r.length = needOf x1 x4) : isF (x0 :: x1 :: x2 :: 0 :: x4 :: r) = (pkOf x0 x1 x2 x4 r).goodB := by
  simp [isF, h, hf]
theorem Rd.bytes {R : Nat} {xs : List Int} {W : World} (h : Rd R xs W) : ∀ x ∈ xs, 0 ≤ x ∧ x ≤ 255 := by
  obtain ⟨_, _, _, hb, _⟩ := h
  exact hb
theorem n4_b {a b c d : Int} (ha : 0 ≤ a ∧ a ≤ 255) (hb : 0 ≤ b ∧ b ≤ 255) (hc : 0 ≤ c ∧ c ≤ 255) (hd : 0 ≤ d ∧ d ≤ 255) : 0 ≤ n4 a b c d ∧ n4 a b c d < 4294967296 := by
  unfold n4
  omega
theorem PB.below {p : Pkt} {B : Nat} {W W' : World} (h : PB p B W) (hb : Below W.heap.size W W') : PB p B W' := (hb.block B h.lt).trans h
theorem grown_below {A B C : World} {r : Option Nat} (h : A.grownBy B r) (k : Below B.heap.size B C) : A.grownBy C r :=
  grown_trans' h ⟨k.os, k.tape, k.output, k.size, fun i hi _ => k.block i hi⟩

/-- What is read: the packet, its list elsewhere. -/
def Reads (xs : List Int) (v : Value) (W : World) (N : Nat) : Prop :=
  ∃ x0 x1 x2 x3 x4 r ao c, xs = x0 :: x1 :: x2 :: x3 :: x4 :: r ∧ v = ({ pkOf x0 x1 x2 x4 r with la := ao, lc := c } : Pkt).val ∧
    (lsOf x1 x4 r).length = (pkOf x0 x1 x2 x4 r).ln ∧ HoldsA W ao (lsOf x1 x4 r) ∧ ∀ b, ao = some b → N ≤ b.block

def PacketP (R : Nat) (xs : List Int) (W : World) (e : Ending) (w' : World) : Prop :=
  W.grownBy w' (some R) ∧ ((isF xs = true ∧ ∃ v, e = .returned v ∧ Reads xs v w' W.heap.size) ∨ (isF xs = false ∧ e = .panicked broken))
theorem grown_trans {A B C : World} {r : Option Nat} (h : A.grownBy B r) (k : B.grownBy C r) : A.grownBy C r := grown_trans' h k
theorem grown_drew {A B : World} {r : Option Nat} (h : A.grownBy B r) : A.grownBy B.drew r := ⟨h.os, h.tape, h.output, h.size, h.block⟩
/-- A store into what is new. -/
theorem grown_new {A B : World} {r : Option Nat} (h : A.grownBy B r) {a : Addr} (ha : A.heap.size ≤ a.block) (v : Value) : A.grownBy (B.setCell a v) r :=
  ⟨h.os, h.tape, h.output, by simpa using h.size, fun i hi hne => (Below.heap_setCell B a v i (by omega)).trans (h.block i hi hne)⟩
/-- A packet stored whole. -/
@[reducible] def store12 (w : World) (C : Nat) (p : Pkt) : World :=
  ((((((((((((w.setCell ⟨C, 0, none⟩ (.int .i64 p.ttl)).setCell ⟨C, 1, none⟩ (.int .i64 p.kind)).setCell ⟨C, 2, none⟩ (.int .i64 p.hops)).setCell ⟨C, 3, none⟩ (.bool p.unk)).setCell ⟨C, 4, none⟩ (.int .u32 p.id)).setCell ⟨C, 5, none⟩ (.int .u32 p.dest)).setCell ⟨C, 6, none⟩ (.int .u32 p.dseq)).setCell ⟨C, 7, none⟩ (.int .u32 p.frm)).setCell ⟨C, 8, none⟩ (.int .u32 p.fseq)).setCell ⟨C, 9, none⟩ (.int .u32 p.life)).setCell ⟨C, 10, none⟩ (.slice p.la p.ln p.lc)).setCell ⟨C, 11, none⟩ (.string p.pay))
theorem PB.storeAll {z : Pkt} {C : Nat} {w : World} (h : PB z C w) (p : Pkt) : PB p C (store12 w C p) := by
  have h0 := PB.set h ⟨p.ttl, z.kind, z.hops, z.unk, z.id, z.dest, z.dseq, z.frm, z.fseq, z.life, z.la, z.ln, z.lc, z.pay⟩ 0 (.int .i64 p.ttl) rfl
  have h1 := PB.set h0 ⟨p.ttl, p.kind, z.hops, z.unk, z.id, z.dest, z.dseq, z.frm, z.fseq, z.life, z.la, z.ln, z.lc, z.pay⟩ 1 (.int .i64 p.kind) rfl
  have h2 := PB.set h1 ⟨p.ttl, p.kind, p.hops, z.unk, z.id, z.dest, z.dseq, z.frm, z.fseq, z.life, z.la, z.ln, z.lc, z.pay⟩ 2 (.int .i64 p.hops) rfl
  have h3 := PB.set h2 ⟨p.ttl, p.kind, p.hops, p.unk, z.id, z.dest, z.dseq, z.frm, z.fseq, z.life, z.la, z.ln, z.lc, z.pay⟩ 3 (.bool p.unk) rfl
  have h4 := PB.set h3 ⟨p.ttl, p.kind, p.hops, p.unk, p.id, z.dest, z.dseq, z.frm, z.fseq, z.life, z.la, z.ln, z.lc, z.pay⟩ 4 (.int .u32 p.id) rfl
  have h5 := PB.set h4 ⟨p.ttl, p.kind, p.hops, p.unk, p.id, p.dest, z.dseq, z.frm, z.fseq, z.life, z.la, z.ln, z.lc, z.pay⟩ 5 (.int .u32 p.dest) rfl
  have h6 := PB.set h5 ⟨p.ttl, p.kind, p.hops, p.unk, p.id, p.dest, p.dseq, z.frm, z.fseq, z.life, z.la, z.ln, z.lc, z.pay⟩ 6 (.int .u32 p.dseq) rfl
  have h7 := PB.set h6 ⟨p.ttl, p.kind, p.hops, p.unk, p.id, p.dest, p.dseq, p.frm, z.fseq, z.life, z.la, z.ln, z.lc, z.pay⟩ 7 (.int .u32 p.frm) rfl
  have h8 := PB.set h7 ⟨p.ttl, p.kind, p.hops, p.unk, p.id, p.dest, p.dseq, p.frm, p.fseq, z.life, z.la, z.ln, z.lc, z.pay⟩ 8 (.int .u32 p.fseq) rfl
  have h9 := PB.set h8 ⟨p.ttl, p.kind, p.hops, p.unk, p.id, p.dest, p.dseq, p.frm, p.fseq, p.life, z.la, z.ln, z.lc, z.pay⟩ 9 (.int .u32 p.life) rfl
  have h10 := PB.set h9 ⟨p.ttl, p.kind, p.hops, p.unk, p.id, p.dest, p.dseq, p.frm, p.fseq, p.life, p.la, p.ln, p.lc, z.pay⟩ 10 (.slice p.la p.ln p.lc) rfl
  have h11 := PB.set h10 ⟨p.ttl, p.kind, p.hops, p.unk, p.id, p.dest, p.dseq, p.frm, p.fseq, p.life, p.la, p.ln, p.lc, p.pay⟩ 11 (.string p.pay) rfl
  exact h11
theorem grown_store {A B : World} {r : Option Nat} (h : A.grownBy B r) {C : Nat} (hC : A.heap.size ≤ C) (p : Pkt) : A.grownBy (store12 B C p) r :=
  grown_new (grown_new (grown_new (grown_new (grown_new (grown_new (grown_new (grown_new (grown_new (grown_new (grown_new (grown_new h hC _) hC _) hC _) hC _) hC _) hC _) hC _) hC _) hC _) hC _) hC _) hC _

end Go.Proofs.YtakaadcpaeiccabGreat

namespace Go.Proofs.YtakaadcpaeiccabGreat
open Go.RowKit Go.Maps

theorem info_fr : (Tryz.prog.info? 77).map (fun i => (i.zero, i.size, i.bytes)) = some (some (.agg #[.int .u32 0, .string ⟨#[]⟩]), 2, 24) := by kernel_rfl
theorem info_rs : (Tryz.prog.info? 195).map (fun i => (i.zero, i.size, i.bytes)) = some (some (.int .i64 0), 1, 8) := by kernel_rfl
/-- The frame that goes out: of no packet none. -/
def encX (p : Pkt) (L : List (Int × Int)) : List Int := if p.goodB then encB p L else []
theorem Encode_x (p : Pkt) (hp : p.Wf) (L : List (Int × Int)) (w : World) (hL : HoldsL w p L) :
    Calls Tryz.prog 117 #[p.val] w fun e w' => ∃ a n c er, e = .returned (.tuple #[.slice a n c, .int .i64 er]) ∧ Below w.heap.size w w' ∧ ∀ W, Below w'.heap.size w' W → (convert 58 9 (.slice a n c)).run Tryz.prog W = .ok (.string (strOfNums (encX p L))) W := by
  cases hg : p.goodB
  · refine (Encode_bad p hp hg w).mono ?_
    rintro e w' ⟨rfl, hb⟩
    refine ⟨none, 0, 0, 1, rfl, hb, fun W _ => ?_⟩
    have : encX p L = [] := by simp [encX, hg]
    rw [this]
    exact run_convert_bytes_nil (P := Tryz.prog) W 58 5 Tryz.underlying58 Tryz.underlying5 0 0 9 Tryz.underlying9
  · obtain ⟨h1, h2, h3, h4, h5⟩ := good_fits hg
    obtain ⟨_, k1, k2, _, _, k3, _⟩ := good_parts hg
    refine (Encode_good p hp hg (by omega) (by omega) h1 h2 h3 h4 h5 (by omega) L w hL).mono ?_
    rintro e w' ⟨v, rfl, hb, hv, ho⟩
    obtain ⟨g, cap, rfl, _⟩ := row_shape ho hv
    refine ⟨_, _, _, 0, rfl, hb, fun W hW => ?_⟩
    have : encX p L = encB p L := by simp [encX, hg]
    rw [this]
    exact conv_row W _ _ _ (step_append_kept ho hW) hv

theorem cells_rs (W : World) (r : Int) : ∀ (j : Nat) (u : Value), (DrC [r])[j]? = some u → (W.alloc (.cells #[.int .i64 r] 195)).cell? ((⟨W.heap.size, 0, none⟩ : Addr).add j) = some u := by
  intro j u hj
  have h := heap_alloc_new W (.cells #[.int .i64 r] 195)
  rw [Addr.add_lit, Nat.zero_add]
  match j, hj with
  | 0, hj => exact (cell_of_row _ _ 0 _ _ _ h).trans hj
  | j + 1, hj => simp [DrC] at hj
theorem one_rs (L : List Int) : ∀ u ∈ DrC L, u.oneCell' = true := by
  intro u hu
  simp only [DrC, List.mem_map] at hu
  obtain ⟨y, _, rfl⟩ := hu
  rfl
theorem cells_fr (W : World) (t : Int) (s : ByteArray) : ∀ (j : Nat) (u : Value), (FrC [(t, s)])[j]? = some u → (W.alloc (.cells #[.int .u32 t, .string s] 77)).cell? ((⟨W.heap.size, 0, none⟩ : Addr).add j) = some u := by
  intro j u hj
  have h := heap_alloc_new W (.cells #[.int .u32 t, .string s] 77)
  rw [Addr.add_lit, Nat.zero_add]
  match j, hj with
  | 0, hj => exact (cell_of_row _ _ 0 _ _ _ h).trans hj
  | 1, hj => exact (cell_of_row _ _ 1 _ _ _ h).trans hj
  | j + 2, hj => simp [FrC] at hj
theorem one_fr (L : List (Int × ByteArray)) : ∀ u ∈ FrC L, u.oneCell' = true := by
  intro u hu
  simp only [FrC, List.mem_flatMap, List.mem_cons, List.not_mem_nil, or_false] at hu
  obtain ⟨y, _, rfl | rfl⟩ := hu <;> rfl
theorem AcM.alloc {B base : Nat} {a : AcV} {nws : List (Bool × Int × Int)} {frs cms : List (Int × ByteArray)} {drs : List Int} {W : World} (h : AcM B base a nws frs cms drs W) (o : Obj) : AcM B base a nws frs cms drs (W.alloc o) := h.later ((Below.refl _ _).alloc (Nat.le_refl _) o)
theorem AcM.drew {B base : Nat} {a : AcV} {nws : List (Bool × Int × Int)} {frs cms : List (Int × ByteArray)} {drs : List Int} {W : World} (h : AcM B base a nws frs cms drs W) : AcM B base a nws frs cms drs W.drew := h.later (Below.refl _ _).drew
/-- The list of what is dropped has grown. -/
theorem AcM.drops {B base : Nat} {a : AcV} {nws : List (Bool × Int × Int)} {frs cms : List (Int × ByteArray)} {drs drs' : List Int} {W W7 : World} (h : AcM B base a nws frs cms drs W) {v7 : Value} (ho : W7.ownsRow base 195 1 v7 drs'.length (DrC drs')) (hg : W.grownBy W7 a.drp.ownBlock) :
    AcB B a W7 ∧ AcM B base { a with drp := v7 } nws frs cms drs' (W7.setCell ⟨B, 6, none⟩ v7) ∧ Fx (AcIn B a) W (W7.setCell ⟨B, 6, none⟩ v7) := by
  have hBr : a.drp.ownBlock ≠ some B := row_not h.drp h.blk (fun c e => (by cases e))
  have hB7 : AcB B a W7 := h.blk.block (hg.block _ h.blk.lt (fun e => hBr e.symm))
  have hg2 : W7.grownBy (W7.setCell ⟨B, 6, none⟩ v7) (some B) := grown_cellOf (grown_self _ (some B)) 6 v7
  have f1 := h.frm.kept hg (rows_apart h.frm h.drp (by decide))
  have f2 := h.cam.kept hg (rows_apart h.cam h.drp (by decide))
  have f3 := h.wrt.kept hg (rows_apart h.wrt h.drp (by decide))
  exact ⟨hB7, ⟨hB7.setDrp v7, f3.kept hg2 (.inr (row_not f3 hB7 (fun c e => (by cases e)))), f1.kept hg2 (.inr (row_not f1 hB7 (fun c e => (by cases e)))), f2.kept hg2 (.inr (row_not f2 hB7 (fun c e => (by cases e)))), ho.kept hg2 (.inr (row_not ho hB7 (fun c e => (by cases e))))⟩,
    grown_Fx (Fx.grown hg fun k e => .inr (.inr (.inr (.inr e)))) hg2 fun i _ e => by cases e; exact .inl rfl⟩
theorem AcM.sends {B base : Nat} {a : AcV} {nws : List (Bool × Int × Int)} {frs frs' cms : List (Int × ByteArray)} {drs : List Int} {W W7 : World} (h : AcM B base a nws frs cms drs W) {v7 : Value} (ho : W7.ownsRow base 77 2 v7 frs'.length (FrC frs')) (hg : W.grownBy W7 a.frm.ownBlock) :
    AcB B a W7 ∧ AcM B base { a with frm := v7 } nws frs' cms drs (W7.setCell ⟨B, 4, none⟩ v7) ∧ Fx (AcIn B a) W (W7.setCell ⟨B, 4, none⟩ v7) := by
  have hBr : a.frm.ownBlock ≠ some B := row_not h.frm h.blk (fun c e => (by cases e))
  have hB7 : AcB B a W7 := h.blk.block (hg.block _ h.blk.lt (fun e => hBr e.symm))
  have hg2 : W7.grownBy (W7.setCell ⟨B, 4, none⟩ v7) (some B) := grown_cellOf (grown_self _ (some B)) 4 v7
  have f1 := h.drp.kept hg (rows_apart h.drp h.frm (by decide))
  have f2 := h.cam.kept hg (rows_apart h.cam h.frm (by decide))
  have f3 := h.wrt.kept hg (rows_apart h.wrt h.frm (by decide))
  exact ⟨hB7, ⟨hB7.setFrm v7, f3.kept hg2 (.inr (row_not f3 hB7 (fun c e => (by cases e)))), ho.kept hg2 (.inr (row_not ho hB7 (fun c e => (by cases e)))), f2.kept hg2 (.inr (row_not f2 hB7 (fun c e => (by cases e)))), f1.kept hg2 (.inr (row_not f1 hB7 (fun c e => (by cases e))))⟩,
    grown_Fx (Fx.grown hg fun k e => .inr (.inr (.inl e))) hg2 fun i _ e => by cases e; exact .inl rfl⟩

set_option maxRecDepth 100000 in
set_option maxHeartbeats 4000000 in
theorem drop_any (B base : Nat) (a : AcV) (nws : List (Bool × Int × Int)) (frs cms : List (Int × ByteArray)) (drs : List Int) (r : Int) (w : World) (ha : AcM B base a nws frs cms drs w) (hbs : base ≤ w.heap.size) (hd : drs.length ≤ 1000000) :
    Calls Tryz.prog 92 #[.pointer (some ⟨B, 0, none⟩), .int .i64 r] w fun e w' => ∃ v7, e = .returned (.tuple #[]) ∧ AcM B base { a with drp := v7 } nws frs cms (drs ++ [r]) w' ∧ Fx (AcIn B a) w w' := by
  obtain ⟨i0, hi, hz0, hz1, hz2⟩ := info_parts info_rs
  have hbA : Below w.heap.size w (w.alloc (.cells #[.int .i64 r] 195)) := (Below.refl _ _).alloc (Nat.le_refl _) _
  have ha1 := ha.alloc (.cells #[.int .i64 r] 195)
  have hcr := cells_rs w r
  have hrow := ha1.drp
  obtain ⟨c0, c1, c2, c3, c4, c5, c6⟩ := ha.blk.cell
  go_enter Tryz.func92, Tryz.ntmps92
  go_wp2_with (at_builtin; refine wpList_append_own_at _ rfl _ _ 50 rfl base 195 i0 (.int .i64 0) 1 8 Tryz.underlying50 hi hz0 hz1 hz2 rfl (by decide) a.drp drs.length (DrC drs) rfl hrow ⟨w.heap.size, 0, none⟩ 1 1 (DrC [r]) rfl rfl hcr (one_rs [r]) (by unfold maxLen; omega) (by omega) ?c3 ?_)
  case c3 => simp; omega
  intro v7 w7 ho7 hg7 _ _
  rw [← DrC_append] at ho7
  have hll : drs.length + 1 = (drs ++ [r]).length := by simp
  rw [hll] at ho7
  obtain ⟨hB7, hm, hf⟩ := ha1.drops ho7 hg7
  have hf' := (Fx.below (S := AcIn B a) hbA).trans hf (fun i _ h => h)
  obtain ⟨d0, d1, d2, d3, d4, d5, d6⟩ := hB7.cell
  have g6 := hB7.free 6
  obtain ⟨ao7, cc7, hv7, _⟩ := row_form ho7
  generalize (drs ++ [r]).length = nn at hv7
  subst hv7
  clear hll hrow hcr c0 c1 c2 c3 c4 c5 c6 ha1 hB7 hg7 ho7
  go_wp2
  go_returns
  exact ⟨_, rfl, hm, hf'⟩

set_option maxRecDepth 100000 in
set_option maxHeartbeats 4000000 in
theorem send_any (B base : Nat) (a : AcV) (nws : List (Bool × Int × Int)) (frs cms : List (Int × ByteArray)) (drs : List Int) (tt : Int) (p : Pkt) (hp : p.Wf) (L : List (Int × Int)) (w : World) (ha : AcM B base a nws frs cms drs w) (hbs : base ≤ w.heap.size) (hd : frs.length ≤ 1000000) (hL : HoldsL w p L) :
    Calls Tryz.prog 80 #[.pointer (some ⟨B, 0, none⟩), .int .u32 tt, p.val] w fun e w' => ∃ v7, e = .returned (.tuple #[]) ∧ AcM B base { a with frm := v7 } nws (frs ++ [(tt, strOfNums (encX p L))]) cms drs w' ∧ Fx (AcIn B a) w w' := by
  obtain ⟨i0, hi, hz0, hz1, hz2⟩ := info_parts info_fr
  have hb0 : Below w.heap.size w (w.alloc p.box) := (Below.refl _ _).alloc (Nat.le_refl _) _
  have hP := PB.new p w
  have HE := (show Hid _ from fun W hW => Encode_x p hp L W (hL.below hW))
  dsimp only [Pkt.box] at hb0
  unfold PB at hP
  dsimp only [Pkt.box] at hP
  go_enter Tryz.func80, Tryz.ntmps80
  go_upto_region 1 with (fail)
  generalize World.alloc _ _ = W1 at hb0 hP ⊢
  generalize w.heap.size = C at hP ⊢
  obtain ⟨b0, b1, b2, b3, b4, b5, b6, b7, b8, b9, b10, b11⟩ := PB.cell (show PB p C W1 from hP)
  go_wp2_with fail
  refine Calls.mono (HE.out W1 hb0) ?_
  rintro e w2 ⟨ea, en, ec, er, rfl, hb2, hcv⟩
  have hbb := hb0.trans (hb2.mono hb0.size)
  have ha2 := ha.later hbb
  have hcv0 := hcv w2 (Below.refl _ _)
  have hcv1 := hcv w2.drew (Below.refl _ _).drew
  generalize hss : strOfNums (encX p L) = ss at hcv0 hcv1
  have hss' := (show Hid _ from hss)
  clear hss hcv hb0 hb2 hP b0 b1 b2 b3 b4 b5 b6 b7 b8 b9 b10 b11 HE
  have hz := hbb.size
  have c4 := ha2.blk.cell.2.2.2.2.1
  have haT := fun o => (ha2.alloc o).blk.cell.2.2.2.2.1
  have hrow := fun o => (ha2.alloc o).drew.frm
  have hcf := fun W => cells_fr W tt ss
  have hbA : Hid (∀ o : Obj, base ≤ (w2.alloc o).drew.heap.size) := by
    intro o
    show base ≤ (w2.alloc o).heap.size
    rw [World.size_alloc]
    omega
  have HF : Hid (∀ v7 w7, w7.ownsRow base 77 2 v7 (frs.length + 1) (FrC frs ++ FrC [(tt, ss)]) → (w2.alloc (.cells #[.int .u32 tt, .string ss] 77)).drew.grownBy w7 a.frm.ownBlock → (w7.cell? ⟨B, 4, none⟩ = some a.frm ∧ w7.frozen? ⟨B, 4, none⟩ = false) ∧ AcM B base { a with frm := v7 } nws (frs ++ [(tt, ss)]) cms drs (w7.setCell ⟨B, 4, none⟩ v7) ∧ Fx (AcIn B a) w (w7.setCell ⟨B, 4, none⟩ v7)) := by
    intro v7 w7 ho7 hg7
    rw [← FrC_append, show frs.length + 1 = (frs ++ [(tt, ss)]).length by simp] at ho7
    have hb3 : Below w2.heap.size w2 (w2.alloc (.cells #[.int .u32 tt, .string ss] 77)).drew := ((Below.refl _ _).alloc (Nat.le_refl _) _).drew
    obtain ⟨hB7, hm, hf⟩ := (ha2.later hb3).sends ho7 hg7
    exact ⟨⟨hB7.cell.2.2.2.2.1, hB7.free 4⟩, hm, ((Fx.below (S := AcIn B a) hbb).trans (Fx.below (S := AcIn B a) hb3) (fun _ _ h => h)).trans hf (fun _ _ h => h)⟩
  clear ha ha2 hbb
  go_wp2_with fail
  go_region_law (refine step_append_at rfl (.tmp 18) (.tmp 23) 48 rfl base 77 i0 (.agg #[.int .u32 0, .string ⟨#[]⟩]) 2 24 Tryz.underlying48 hi hz0 hz1 hz2 rfl (by decide) a.frm frs.length (FrC frs) (by simp [Act.eval]) (hrow _) ⟨_, 0, none⟩ 1 1 (FrC [(tt, ss)]) (by simp [Act.eval]) rfl (hcf _) (one_fr _) (by unfold maxLen; omega) (by omega) (hbA.out _) ?_; intro v7 w7 ho7 hg7 _; obtain ⟨⟨g1, g2⟩, hm, hf⟩ := HF.out _ _ ho7 hg7; obtain ⟨ao7, cc7, rfl, _⟩ := row_form ho7)
  all_goals
    rw [← hss'.out] at hm
    generalize World.setCell _ _ _ = w8 at hm hf ⊢
    clear g1 g2 hg7 ho7
    go_wp2
    go_returns
    exact ⟨_, rfl, hm, hf⟩
end Go.Proofs.YtakaadcpaeiccabGreat

namespace Go.Proofs.YtakaadcpaeiccabGreat
open Go.RowKit Go.Maps

/-- The number of a destination's line; 0 without one. -/
def numL (A : List Rt) (d : Int) : Int := ((lineOf A d).map (·.seq)).getD 0
set_option maxHeartbeats 1000000 in
theorem tnum_any {me : Int} {T M : Nat} {f : Int → Option Nat} {g : Int → Value} {A : List Rt} {w : World} (h : MT me T M f g A w) (d : Int) (hd : U32 d) :
    Calls Tryz.prog 157 #[.pointer (some ⟨T, 0, none⟩), .int .u32 d] w fun e w' => e = .returned (.tuple #[.int .u32 (numL A d), .bool (lineOf A d).isSome]) ∧ w' = w := by
  obtain ⟨t0, t1⟩ := h.blk.cell
  have hlk := h.map.look hd
  cases hl : lineOf A d with
  | none =>
    rw [h.off hd hl] at hlk
    simp only [ptrOf] at hlk
    have hn : numL A d = 0 := by simp [numL, hl]
    rw [hn]
    clear h hn hl
    go_enter Tryz.func157, Tryz.ntmps157
    go_wp2
    go_ret2
    exact ⟨rfl, rfl⟩
  | some x =>
    obtain ⟨_, _, B, hB, hL, _⟩ := h.line hl
    rw [hB] at hlk
    simp only [ptrOf] at hlk
    obtain ⟨b0, b1, b2, b3, b4, b5, b6⟩ := hL.cell
    have hn : numL A d = x.seq := by simp [numL, hl]
    rw [hn]
    clear h hn hl hL hB
    go_enter Tryz.func157, Tryz.ntmps157
    go_wp2
    go_ret2
    exact ⟨rfl, rfl⟩

/-- The packet that tells what is lost. -/
def lsP (n : Nat) : Pkt := ⟨1, 3, 0, false, 0, 0, 0, 0, 0, 0, none, n, 0, ⟨#[]⟩⟩
/-- The frame that tells what is lost. -/
def lsB (L : List (Int × Int)) : ByteArray := strOfNums (encX (lsP L.length) L)
def lsF (tt : Int) (L : List (Int × Int)) : List (Int × ByteArray) := if L.length = 0 then [] else [(tt, lsB L)]

end Go.Proofs.YtakaadcpaeiccabGreat

namespace Go.Proofs.YtakaadcpaeiccabGreat
open Go.RowKit Go.Maps

/-- The blocks of a node. -/
def NdIn (N : Nat) (x : NdV) (M : Nat) (ff : Int → Option Nat) (gg : Int → Value) (A : List Rt) (k : Nat) : Prop := k = N ∨ k = x.Mo ∨ TIn x.T M ff gg A k
def acZ (now : Int) : AcV := ⟨now, .slice none 0 0, ⟨#[]⟩, false, .slice none 0 0, .slice none 0 0, .slice none 0 0⟩
theorem AcM.zero (now : Int) (W : World) : AcM W.heap.size (W.heap.size + 1) (acZ now) [] [] [] [] (W.alloc (acBox (acZ now))) :=
  ⟨heap_alloc_new _ _, ⟨rfl, .inl ⟨rfl, rfl⟩⟩, ⟨rfl, .inl ⟨rfl, rfl⟩⟩, ⟨rfl, .inl ⟨rfl, rfl⟩⟩, ⟨rfl, .inl ⟨rfl, rfl⟩⟩⟩

set_option maxRecDepth 100000 in
set_option maxHeartbeats 2000000 in
theorem begin_any (N : Nat) (x : NdV) {M : Nat} {ff : Int → Option Nat} {gg : Int → Value} {A : List Rt} {f : Int → Option Int} {sz : Nat} (now : Int) (w : World) (hn : NdM N x M ff gg A f sz w) (hcnt : 0 ≤ x.cnt ∧ x.cnt ≤ 1000000) (hsz : sz ≤ 1000000) :
    Calls Tryz.prog 51 #[.pointer (some ⟨N, 0, none⟩), .int .u64 now] w fun e w' => ∃ gg' v7 sz', e = .returned (.pointer (some ⟨w.heap.size, 0, none⟩)) ∧ NdM N { x with own := mxO x.seq x.own, cnt := x.cnt + (newsP x.seq x.own f (expL A now)).2.length } M ff gg' (expL A now) (newsP x.seq x.own f (expL A now)).1 sz' w' ∧ sz' ≤ sz + 8 ∧ AcM w.heap.size (w.heap.size + 1) { acZ now with wrt := v7 } (newsP x.seq x.own f (expL A now)).2 [] [] [] w' ∧ (∀ k, NdIn N x M ff gg' (expL A now) k → NdIn N x M ff gg A k) ∧ Fx (NdIn N x M ff gg A) w w' := by
  have hb0 : Below w.heap.size w (w.alloc (acBox (acZ now))) := (Below.refl _ _).alloc (Nat.le_refl _) _
  have hn1 := hn.later hb0
  have ha1 := AcM.zero now w
  have hlt : ∀ k, NdIn N x M ff gg A k → k < w.heap.size := by
    rintro k (rfl | rfl | hk)
    · exact hn.nd.lt
    · exact hn.mo.lt
    · exact hn.tb.lt hk
  have HE : Hid (Calls Tryz.prog 76 #[.pointer (some ⟨x.T, 0, none⟩), .int .u64 now] (w.alloc (acBox (acZ now))) fun e w2 => ∃ gg', e = .returned (.tuple #[]) ∧ NdM N x M ff gg' (expL A now) f sz w2 ∧ AcM w.heap.size (w.heap.size + 1) (acZ now) [] [] [] [] w2 ∧ (∀ k, TIn x.T M ff gg' (expL A now) k → TIn x.T M ff gg A k) ∧ Fx (NdIn N x M ff gg A) w w2 ∧ w.heap.size + 1 ≤ w2.heap.size) := by
    refine (Expire_any (S := TIn x.T M ff gg A) now hn1.tb (fun _ h => h) (fun k hk => hn1.tb.lt hk)).mono ?_
    rintro e w2 ⟨gg', rfl, h2, h3, h4⟩
    refine ⟨gg', rfl, ⟨hn1.nd.block (h4.block _ hn1.nd.lt fun hk => ?_), hn1.mo.block (h4.block _ hn1.mo.lt fun hk => ?_), h2, hn.ne⟩, ha1.kept fun k hk => h4.block _ (ha1.lt hk) fun hk2 => ?_, h3, (Fx.below (S := NdIn N x M ff gg A) hb0).trans h4 (fun i _ h => .inr (.inr h)), ?_⟩
    · exact hn1.tb.not (fun e => by
        obtain ⟨D, ⟨es, cl, hm, _⟩, _⟩ := hn1.tb.map
        rw [← e, show (w.alloc (acBox (acZ now))).heap[N]? = _ from hn1.nd] at hm
        cases hm) hn1.nd (nd_offT x) hk
    · obtain ⟨es, cl, hm⟩ := hn1.mo.obj
      exact hn1.tb.not (Ne.symm hn1.ne) hm (map_offT es cl) hk
    · obtain ⟨o, p1, p2, _, p4⟩ := ha1.offT hk
      exact hn1.tb.not (fun e => by
        obtain ⟨D, ⟨es, cl, hm, _⟩, _⟩ := hn1.tb.map
        rw [← e, p1] at hm
        exact p4 _ _ (Option.some.inj hm)) p1 p2 hk2
    · have := h4.size
      simp at this
      omega
  have hc5 := hn1.nd.cell.2.2.2.2.1
  clear hb0 ha1
  dsimp only [acBox, acZ] at HE hc5
  go_enter Tryz.func51, Tryz.ntmps51
  go_wp2_with fail
  refine Calls.mono HE.out ?_
  rintro e w2 ⟨gg', rfl, hn2, ha2, ht2, hf2, hs2⟩
  clear HE hc5 hn1
  go_wp2_with fail
  refine Calls.mono (write_any N w.heap.size (w.heap.size + 1) x _ M ff gg' (expL A now) f sz [] [] [] [] w2 hn2 ha2 hs2 hcnt hsz (by simp)) ?_
  rintro e w3 ⟨v7, sz', rfl, k1, k2, k3, k4⟩
  rw [List.nil_append] at k3
  go_wp2
  go_ret
  refine ⟨gg', v7, sz', rfl, k1, k2, k3, ?_, hf2.trans k4 ?_⟩
  · rintro k (h | h | h)
    · exact .inl h
    · exact .inr (.inl h)
    · exact .inr (.inr (ht2 k h))
  · rintro k hk (h | h | h)
    · exact .inl h
    · exact .inr (.inl h)
    · exfalso
      rcases h with h | h | h | h | h
      · omega
      · cases h
      · cases h
      · cases h
      · cases h
end Go.Proofs.YtakaadcpaeiccabGreat

namespace Go.Proofs.YtakaadcpaeiccabGreat
open Go.RowKit

set_option maxRecDepth 100000 in
set_option maxHeartbeats 2000000 in
theorem greatestOwn_any (ao : Option Addr) (n c : Nat) (L : List (Bool × Int × Int)) (hL : L.length = n) (hn : n ≤ 1000000) (_hbd : RBd L) (w : World) (hA : HoldsC w ao (RC L)) :
    Calls Tryz.prog 43 #[.slice ao n c] w fun e w' => e = .returned (.int .u32 ((owL L).getD 0)) ∧ Below w.heap.size w w' := by
  go_enter Tryz.func43, Tryz.ntmps43
  go_wp2_with fail
  go_loopw [3, 8] (fun q i wr => ∃ k : Nat, k ≤ n ∧ i = .int .i64 k ∧ q = .int .u32 ((owL (L.take k)).getD 0) ∧ Below w.heap.size w wr) (fun _ i _ => n - (intOf i).toNat)
  case atStart => exact ⟨0, Nat.zero_le _, rfl, rfl, Below.refl _ _⟩
  case round =>
    obtain ⟨k, hk, rfl, rfl, hb⟩ := hrel
    by_cases hlt : k < n
    · have hki : (k : Int) < (n : Int) := by omega
      obtain ⟨x, hx⟩ : ∃ x, L[k]? = some x := ⟨_, List.getElem?_eq_getElem (by omega)⟩
      have hat : ∀ i z, i < 3 → ([.bool x.1, .int .u32 x.2.1, .int .u32 x.2.2] : List Value)[i]? = some z → (RC L)[k * 3 + i]? = some z := fun i z hi hz => (flat_at (fun x : Bool × Int × Int => ([Value.bool x.1, Value.int .u32 x.2.1, Value.int .u32 x.2.2] : List Value)) 3 (by decide) (fun _ => rfl) L k i hi hx).trans hz
      have hA' := hA.below hb
      obtain ⟨b1, o1, rfl, hj1⟩ := hA' (k * 3 + 0) _ (hat 0 _ (by decide) rfl)
      have d0 := hA'.one rfl (hat 0 _ (by decide) rfl)
      have d1 := hA'.one rfl (hat 1 _ (by decide) rfl)
      have d2 := hA'.one rfl (hat 2 _ (by decide) rfl)
      have eO : Hid (owL (L.take (k + 1)) = stepO (owL (L.take k)) x) := by
        show _ = _
        rw [take_snocR hx, owL_snoc]
      obtain ⟨xo, xa, xs⟩ := x
      dsimp only at d0 d1 d2
      rw [Nat.add_zero] at d0
      rw [← Nat.add_assoc] at d1 d2
      have hb1 := hb.alloc hb.size (recBox xo xa xs)
      clear hj1 hat hA' hx hb
      generalize owL (L.take k) = cc at eO ⊢
      dsimp only [recBox] at hb1
      cases xo
      · have eO' : Hid ((owL (L.take (k + 1))).getD 0 = cc.getD 0) := by
          show _ = _
          rw [eO.out]; rfl
        clear eO
        generalize cc.getD 0 = t at eO' ⊢
        go_wp2
        go_roundw
        case rel => exact ⟨k + 1, by omega, by go_num, by rw [eO'.out], hb1⟩
        case measure => simp [intOf]; omega
      · have eO' : Hid ((owL (L.take (k + 1))).getD 0 = max (cc.getD 0) xs) := by
          show _ = _
          rw [eO.out]; rfl
        clear eO
        generalize cc.getD 0 = t at eO' ⊢
        go_wp2
        go_roundw
        case rel => exact ⟨k + 1, by omega, by go_num, by rw [eO'.out], hb1⟩
        case measure => simp [intOf]; omega
    · obtain rfl : k = n := by omega
      rw [List.take_of_length_le (by omega)]
      go_wp2
      go_ret
      exact ⟨rfl, hb⟩

set_option maxRecDepth 100000 in
set_option maxHeartbeats 4000000 in
theorem journalText_any (ao : Option Addr) (n c : Nat) (L : List (Bool × Int × Int)) (hL : L.length = n) (hn : n ≤ 100000) (hbd : RBd L) (w : World) (hA : HoldsC w ao (RC L)) :
    Calls Tryz.prog 73 #[.slice ao n c] w fun e w' => e = .returned (.string (strOfNums (flatR L))) ∧ Below w.heap.size w w' := by
  obtain ⟨i1, ji, jz0, jz1, jz2⟩ := info_parts info_u8
  have hb0 : Below w.heap.size w w := Below.refl _ _
  go_enter Tryz.func73, Tryz.ntmps73
  go_wp2_with fail
  go_loopw [3, 8] (fun bv i wr => ∃ k : Nat, k ≤ n ∧ i = .int .i64 k ∧ wr.ownsRow w.heap.size 5 1 bv (13 * k) (U (flatR (L.take k))) ∧ Below w.heap.size w wr) (fun _ i _ => n - (intOf i).toNat)
  case atStart => exact ⟨0, Nat.zero_le _, rfl, ⟨rfl, .inl ⟨rfl, rfl⟩⟩, hb0⟩
  case round =>
    clear hb0
    obtain ⟨k, hk, rfl, ho, hb⟩ := hrel
    by_cases hlt : k < n
    · have hki : (k : Int) < (n : Int) := by omega
      obtain ⟨⟨o, a, s⟩, hx⟩ : ∃ x, L[k]? = some x := ⟨_, List.getElem?_eq_getElem (by omega)⟩
      have hbx := hbd _ (List.mem_of_getElem? hx)
      dsimp only at hbx
      have hLr := hA.below hb
      have hat : ∀ i z, i < 3 → ([.bool o, .int .u32 a, .int .u32 s] : List Value)[i]? = some z → (RC L)[k * 3 + i]? = some z := fun i z hi hz => (flat_at (fun x : Bool × Int × Int => ([Value.bool x.1, Value.int .u32 x.2.1, Value.int .u32 x.2.2] : List Value)) 3 (by decide) (fun _ => rfl) L k i hi hx).trans hz
      obtain ⟨b1, o1, rfl, hj1⟩ := hLr (k * 3 + 0) _ (hat 0 _ (by decide) rfl)
      have c0 := hLr.one rfl (hat 0 _ (by decide) rfl)
      have c1 := hLr.one rfl (hat 1 _ (by decide) rfl)
      have c2 := hLr.one rfl (hat 2 _ (by decide) rfl)
      rw [Nat.add_zero] at c0
      rw [← Nat.add_assoc] at c1 c2
      have hst : Hid (flatR (L.take (k + 1)) = flatR (L.take k) ++ recB o a s) := by
        show _ = _
        rw [List.take_add_one, hx, flatR_append]
        rfl
      have hbA : Below wr.heap.size wr (wr.alloc (recBox o a s)) := (Below.refl _ _).alloc (Nat.le_refl _) _
      have hB1 := RBk.new o a s wr
      have ho1 := step_append_kept ho hbA
      have hb1 := hb.alloc hb.size (recBox o a s)
      dsimp only [recBox] at hB1 ho1 hb1
      clear hj1 hat hLr hx hb ho hbA
      go_upto_region 5 with (fail)
      generalize wr.heap.size = B1 at hB1 ⊢
      generalize World.alloc _ _ = W1 at hB1 ho1 hb1 ⊢
      obtain ⟨d0, d1, d2⟩ := hB1.cell
      clear c0 c1 c2
      go_wp2_with fail
      refine (WriteRecord_any o a s hbx.1.1 hbx.1.2 hbx.2.1 hbx.2.2 _).mono ?_
      rintro e W3 ⟨v3, rfl, hb3, hv3, ho3⟩
      have hoB := step_append_kept ho1 hb3
      have hB3 := hb1.trans (hb3.mono hb1.size)
      obtain ⟨g3, cap3, rfl, hg3⟩ := row_shape ho3 hv3
      have hc3 : ∀ (j : Nat) (u : Value), (U (recB o a s))[j]? = some u → W3.cell? ((⟨g3, 0, none⟩ : Addr).add j) = some u := by
        intro j u hj
        obtain ⟨b', o', h1, _, h2⟩ := HoldsC.ofRow ho3 j u hj
        simp only [Option.some.injEq, Addr.mk.injEq, and_true] at h1
        obtain ⟨rfl, rfl⟩ := h1
        have hadd : (⟨g3, 0, none⟩ : Addr).add j = ⟨g3, 0 + j, none⟩ := by unfold Addr.add; split <;> simp_all
        rw [hadd]
        exact h2
      have h1c : ∀ u ∈ U (recB o a s), u.oneCell' = true := by
        intro u hu
        simp only [U, List.mem_map] at hu
        obtain ⟨y, _, rfl⟩ := hu
        rfl
      have hlt3 := hoB.lt
      clear ho1 hb1 hb3 ho3 d0 d1 d2 hB1
      go_wp2_with (at_builtin; refine wpList_append_own _ rfl _ _ 58 rfl w.heap.size 5 i1 (.int .u8 0) 1 1 Tryz.underlying58 ji jz0 jz1 jz2 rfl (by decide) u3 (13 * k) (U (flatR (L.take k))) rfl hoB ⟨g3, 0, none⟩ 13 cap3 (U (recB o a s)) rfl rfl hc3 h1c ?c1 ?c2 ?c3 ?_)
      case c1 => unfold maxLen; omega
      case c2 => omega
      case c3 => exact hB3.size
      intro v4 W4 ho4 hg4 _
      have hB4 := hB3.grown hg4 hB3.size (fun k hk => (hlt3 k hk).1)
      rw [U_append] at ho4
      clear hoB hB3 hc3 h1c hlt3 hg4
      go_wp2
      go_roundw
      case rel =>
        refine ⟨k + 1, by omega, by go_num, ?_, hB4⟩
        rw [hst.out]
        exact ho4
      case measure => simp [intOf]; omega
    · obtain rfl : k = n := by omega
      rw [List.take_of_length_le (by omega)] at ho
      have hxl := flatR_length L
      rw [hL] at hxl
      rw [← hxl] at ho
      have hcv := conv_rest (rest_row ho (flatR_b hbd))
      clear ho hxl
      go_wp2
      go_ret
      exact ⟨rfl, hb⟩
end Go.Proofs.YtakaadcpaeiccabGreat

namespace Go.Proofs.YtakaadcpaeiccabGreat
open Go.RowKit Go.Maps

theorem newsP_bd {q own : Int} (hq : U32 q) (f : Int → Option Int) {A : List Rt} (hA : ∀ y ∈ A, y.Ok) : RBd (newsP q own f A).2 := by
  have h : ∀ (A : List Rt) (st : (Int → Option Int) × List (Bool × Int × Int)), (∀ y ∈ A, y.Ok) → RBd st.2 → RBd (A.foldl nwsS st).2 := by
    intro A
    induction A with
    | nil => intro st _ h; exact h
    | cons y A ih =>
      intro st hA h
      rw [List.foldl_cons]
      refine ih _ (fun z hz => hA z (List.mem_cons_of_mem _ hz)) ?_
      unfold nwsS
      split
      · intro z hz
        rcases List.mem_append.1 hz with hz | hz
        · exact h z hz
        · rw [List.mem_singleton] at hz
          subst hz
          have := hA y (List.mem_cons_self ..)
          have h1 := this.dest
          have h2 := this.seq
          unfold U32 at h1 h2
          dsimp only
          omega
      · exact h
  refine h A _ hA ?_
  unfold nwsO
  split
  · intro z hz
    rw [List.mem_singleton] at hz
    subst hz
    unfold U32 at hq
    dsimp only
    omega
  · intro z hz
    simp at hz
theorem RBd_append {a b : List (Bool × Int × Int)} (ha : RBd a) (hb : RBd b) : RBd (a ++ b) := fun x hx => (List.mem_append.1 hx).elim (ha x) (hb x)

@[reducible] def outZ : Obj := .cells #[.string ⟨#[]⟩, .bool false, .slice none 0 0, .slice none 0 0, .slice none 0 0] 52
/-- What a node has done in a call, as it comes out. -/
def outV (s : ByteArray) (rep : Bool) (frm cam drp : Value) : Value := .agg #[.string s, .bool rep, frm, cam, drp]

end Go.Proofs.YtakaadcpaeiccabGreat
