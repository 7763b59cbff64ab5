import Derived.Test.YtmahaccaglaldaaW3
import Derived.Test.YtmahaccaglaldaaL1
import Derived.Deep.CutRange
namespace Go.Proofs.Ytmahaccaglaldaa
open Go.RowKit

theorem info_u8 : (Try.prog.info? 5).map (fun i => (i.zero, i.size, i.bytes)) = some (some (.int .u8 0), 1, 1) := by kernel_rfl

/-- Four new bytes in a block of their own, as what is appended. -/
theorem src_b4 (w : World) (n : Int) :
    Src Try.prog 1 27 (.slice (some ⟨w.heap.size, 0, none⟩) 4 4) 4 (U (b4 n)) (w.alloc (.cells #[.int .u8 (n / 16777216), .int .u8 (n / 65536 % 256), .int .u8 (n / 256 % 256), .int .u8 (n % 256)] 5)) := by
  refine Src.ofSlice _ Try.underlying27 _ 4 4 _ rfl ?_ ?_
  · intro j u hj
    have hadd : (⟨w.heap.size, 0, none⟩ : Addr).add j = ⟨w.heap.size, j, none⟩ := by unfold Addr.add; split <;> simp_all
    rw [hadd, World.cell?_alloc_new w]
    rw [← hj]
    simp [U, b4]
  · intro u hu
    simp only [U, b4, List.map_cons, List.map_nil, List.mem_cons, List.not_mem_nil, or_false] at hu
    rcases hu with rfl | rfl | rfl | rfl <;> rfl

set_option maxHeartbeats 1000000 in
theorem appendNumber_any (base : Nat) (v : Value) (n : Int) (xs : List Int) (w : World) (h0 : 0 ≤ n) (h1 : n < 4294967296)
    (hown : w.ownsRow base 5 1 v xs.length (U xs)) (hv : v ≠ .slice none 0 0) (hb : base ≤ w.heap.size) (hlen : xs.length ≤ 1000000) :
    Calls Try.prog 17 #[v, .int .u32 n] w fun e w' => ∃ v', e = .returned v' ∧ w'.ownsRow base 5 1 v' (xs ++ b4 n).length (U (xs ++ b4 n)) ∧ w.grownBy w' v.ownBlock ∧ v' ≠ .slice none 0 0 := by
  obtain ⟨i0, hi, hz0, hz1, hz2⟩ := info_parts info_u8
  have hsrc := src_b4 w n
  go_enter Try.func17, Try.ntmps17
  go_wp2_with (at_builtin; refine wpList_append_own_src _ rfl _ _ 27 27 rfl base 5 i0 (.int .u8 0) 1 1 Try.underlying27 hi hz0 hz1 hz2 rfl v xs.length (U xs) rfl (hown.alloc _) hv _ 4 (U (b4 n)) rfl hsrc ?c1 ?c2 ?c3 ?_)
  case c1 => unfold maxLen; omega
  case c2 => omega
  case c3 => simp; omega
  intro v' w' hown' hgrow hv'
  go_wp2
  go_ret
  refine ⟨v', rfl, ?_, ?_, hv'⟩
  · rw [List.length_append, b4_length, ← U_append]
    exact hown'
  · have hg := World.grownBy_alloc w (.cells #[.int .u8 (n / 16777216), .int .u8 (n / 65536 % 256), .int .u8 (n / 256 % 256), .int .u8 (n % 256)] 5) v.ownBlock
    exact ⟨hgrow.os.trans hg.os, hgrow.tape.trans hg.tape, hgrow.output.trans hg.output, Nat.le_trans hg.size hgrow.size, fun k hk hne => (hgrow.block k (Nat.lt_of_lt_of_le hk hg.size) hne).trans (hg.block k hk hne)⟩
end Go.Proofs.Ytmahaccaglaldaa

namespace Go.Proofs.Ytmahaccaglaldaa
open Go.RowKit

/-- The numbers of a packet: where they stand in it, and what they are. -/
def Pkt.nums (p : Pkt) : List (Nat × Int) :=
  if p.kind = 1 then [(4, p.id), (5, p.dest), (6, p.dseq), (7, p.frm), (8, p.fseq)]
  else if p.kind = 2 then [(5, p.dest), (6, p.dseq), (7, p.frm), (9, p.life)]
  else if p.kind = 9 then [(4, p.id), (5, p.dest), (7, p.frm)]
  else []

def ptrs (B : Nat) (l : List (Nat × Int)) : Array Value := (l.map fun x => Value.pointer (some ⟨B, x.1, none⟩)).toArray

/-- The list of pointers that 'numbers' gives. -/
def Ptrs (B : Nat) (l : List (Nat × Int)) (ao : Option Addr) (base : Nat) (W : World) : Prop :=
  ∀ j, j < l.length → ∃ N, ao = some ⟨N, 0, none⟩ ∧ base ≤ N ∧ W.heap[N]? = some (.cells (ptrs B l) 46 (0, 0))

theorem numbers_any (p : Pkt) (B : Nat) (w : World) (hc : w.cell? ⟨B, 1, none⟩ = some (.int .i64 p.kind)) :
    Calls Try.prog 16 #[.pointer (some ⟨B, 0, none⟩)] w fun e w' => ∃ ao, e = .returned (.slice ao p.nums.length p.nums.length) ∧ Below w.heap.size w w' ∧ Ptrs B p.nums ao w.heap.size w' := by
  have hnew : ∀ o, (w.alloc o).drew.heap[w.heap.size]? = some o := fun o => heap_alloc_new w o
  by_cases h1 : p.kind = 1
  · rw [h1] at hc
    refine (numbers_1 B w hc).mono ?_
    rintro e w' ⟨rfl, rfl⟩
    simp only [Pkt.nums, h1, if_true]
    exact ⟨_, rfl, ((Below.refl _ _).alloc (Nat.le_refl _) _).drew, fun j _ => ⟨_, rfl, Nat.le_refl _, hnew _⟩⟩
  by_cases h2 : p.kind = 2
  · rw [h2] at hc
    refine (numbers_2 B w hc).mono ?_
    rintro e w' ⟨rfl, rfl⟩
    have : p.nums = [(5, p.dest), (6, p.dseq), (7, p.frm), (9, p.life)] := by simp [Pkt.nums, h2]
    rw [this]
    exact ⟨_, rfl, ((Below.refl _ _).alloc (Nat.le_refl _) _).drew, fun j _ => ⟨_, rfl, Nat.le_refl _, hnew _⟩⟩
  by_cases h9 : p.kind = 9
  · rw [h9] at hc
    refine (numbers_9 B w hc).mono ?_
    rintro e w' ⟨rfl, rfl⟩
    have : p.nums = [(4, p.id), (5, p.dest), (7, p.frm)] := by simp [Pkt.nums, h9]
    rw [this]
    exact ⟨_, rfl, ((Below.refl _ _).alloc (Nat.le_refl _) _).drew, fun j _ => ⟨_, rfl, Nat.le_refl _, hnew _⟩⟩
  · refine (numbers_0 B p.kind (by simpa using h1) (by simpa using h2) (by simpa using h9) w hc).mono ?_
    rintro e w' ⟨rfl, rfl⟩
    have : p.nums = [] := by simp [Pkt.nums, h1, h2, h9]
    rw [this]
    exact ⟨none, rfl, Below.refl _ _, fun j hj => absurd hj (by simp)⟩

theorem InB.below' {p : Pkt} {w W W1 : World} (h : InB p w W) (hb : Below (w.heap.size + 1) W W1) : InB p w W1 := by
  obtain ⟨c0, c1, c2, c3, c4, c5, c6, c7, c8, c9, c10, c11, hs, hB⟩ := h
  have k : ∀ i, W1.cell? ⟨w.heap.size, i, none⟩ = W.cell? ⟨w.heap.size, i, none⟩ := fun i => hb.cell (p := ⟨w.heap.size, i, none⟩) (Nat.lt_succ_self _)
  exact ⟨(k _).trans c0, (k _).trans c1, (k _).trans c2, (k _).trans c3, (k _).trans c4, (k _).trans c5, (k _).trans c6, (k _).trans c7, (k _).trans c8, (k _).trans c9, (k _).trans c10, (k _).trans c11,
    Nat.lt_of_lt_of_le hs hb.size, hB.trans (hb.mono (Nat.le_succ _))⟩

theorem nums_len (p : Pkt) : p.nums.length ≤ 5 := by
  unfold Pkt.nums
  split
  · simp
  split
  · simp
  split <;> simp

/-- The bytes of the first k numbers. -/
def Pkt.numB (p : Pkt) (k : Nat) : List Int := (p.nums.take k).flatMap fun x => b4 x.2
theorem numB_succ {p : Pkt} {k o : Nat} {x : Int} (h : p.nums[k]? = some (o, x)) : p.numB (k + 1) = p.numB k ++ b4 x := by
  unfold Pkt.numB
  rw [List.take_add_one, h]
  simp
theorem flat4_len (l : List (Nat × Int)) : (l.flatMap fun x => b4 x.2).length = 4 * l.length := by
  induction l with
  | nil => rfl
  | cons a l ih => simp only [List.flatMap_cons, List.length_append, ih, b4_length, List.length_cons]; omega
theorem numB_len (p : Pkt) (k : Nat) : (p.numB k).length ≤ 20 := by
  unfold Pkt.numB
  rw [flat4_len]
  have := nums_len p
  have := List.length_take_le k p.nums
  have := List.length_take_le' k p.nums
  omega

theorem InB.start0 (p : Pkt) (w : World) : InB p w (w.alloc p.box) :=
  ⟨World.cell?_alloc_new w _ _ _, World.cell?_alloc_new w _ _ _, World.cell?_alloc_new w _ _ _, World.cell?_alloc_new w _ _ _, World.cell?_alloc_new w _ _ _, World.cell?_alloc_new w _ _ _,
   World.cell?_alloc_new w _ _ _, World.cell?_alloc_new w _ _ _, World.cell?_alloc_new w _ _ _, World.cell?_alloc_new w _ _ _, World.cell?_alloc_new w _ _ _, World.cell?_alloc_new w _ _ _,
   by simp, (Below.refl _ _).alloc (Nat.le_refl _) _⟩
theorem InB.drew' {p : Pkt} {w W : World} (h : InB p w W) : InB p w W.drew := by
  obtain ⟨c0, c1, c2, c3, c4, c5, c6, c7, c8, c9, c10, c11, hs, hB⟩ := h
  exact ⟨c0, c1, c2, c3, c4, c5, c6, c7, c8, c9, c10, c11, hs, hB.drew⟩

theorem nums_cell {p : Pkt} {w W : World} (hp : p.Wf) (h : InB p w W) (k : Nat) (hk : k < p.nums.length) :
    ∃ o x, p.nums[k]? = some (o, x) ∧ W.cell? ⟨w.heap.size, o, none⟩ = some (.int .u32 x) ∧ 0 ≤ x ∧ x < 4294967296 := by
  obtain ⟨c0, c1, c2, c3, c4, c5, c6, c7, c8, c9, c10, c11, hs, hB⟩ := h
  obtain ⟨h1, h2, h3, h4, h5, h6, i0, i1, d0, d1, s0, s1, f0, f1, g0, g1, l0, l1, h19, h20⟩ := hp
  have hall : ∀ ox ∈ p.nums, W.cell? ⟨w.heap.size, ox.1, none⟩ = some (.int .u32 ox.2) ∧ 0 ≤ ox.2 ∧ ox.2 < 4294967296 := by
    unfold Pkt.nums
    split
    · simp [*]
    split
    · simp [*]
    split
    · simp [*]
    · simp
  have hm := hall _ (List.getElem_mem hk)
  exact ⟨_, _, List.getElem?_eq_getElem hk, hm.1, hm.2⟩

/-- What the two loops of Encode hold on to. -/
structure EncInv (p : Pkt) (w : World) (ao : Option Addr) (wr : World) (b : Value) (xs : List Int) : Prop where
  inb : InB p w wr
  own : wr.ownsRow (w.heap.size + 1) 5 1 b xs.length (U xs)
  nn : b ≠ .slice none 0 0
  ptr : Ptrs w.heap.size p.nums ao (w.heap.size + 1) wr

theorem EncInv.base {p : Pkt} {w : World} {ao : Option Addr} {wr : World} {b : Value} {xs : List Int} (h : EncInv p w ao wr b xs) : w.heap.size + 1 ≤ wr.heap.size := by
  obtain ⟨_, _, _, _, _, _, _, _, _, _, _, _, hs, _⟩ := h.inb
  omega

theorem other_row {W : World} {base : Nat} {b : Value} {n : Nat} {xs : List Value} (h : W.ownsRow base 5 1 b n xs) {N : Nat} {c : Array Value} {f : Nat × Nat}
    (hN : W.heap[N]? = some (.cells c 46 f)) : some N ≠ b.ownBlock := by
  intro he
  rcases h.2 with ⟨rfl, _⟩ | ⟨g, cap, cur, rfl, _, hg, _⟩
  · simp [Value.ownBlock] at he
  · simp [Value.ownBlock] at he
    subst he
    rw [hN] at hg
    simp at hg

theorem own_head (base : Nat) (w : World) (x0 x1 x2 x3 x4 : Int) (hb : base ≤ w.heap.size) :
    (w.alloc (.cells #[.int .u8 x0, .int .u8 x1, .int .u8 x2, .int .u8 x3, .int .u8 x4] 5)).ownsRow base 5 1 (.slice (some ⟨w.heap.size, 0, none⟩) 5 5) [x0, x1, x2, x3, x4].length (U [x0, x1, x2, x3, x4]) :=
  ⟨rfl, .inr ⟨w.heap.size, 5, _, rfl, hb, heap_alloc_new w _, Nat.le_refl _, by decide, rfl, rfl⟩⟩

theorem EncInv.step {p : Pkt} {w : World} {ao : Option Addr} {wr w1 : World} {b v' : Value} {xs ys : List Int} (h : EncInv p w ao wr b xs)
    (hg : wr.grownBy w1 b.ownBlock) (ho : w1.ownsRow (w.heap.size + 1) 5 1 v' ys.length (U ys)) (hv : v' ≠ .slice none 0 0) : EncInv p w ao w1 v' ys := by
  have hlt := h.own.lt
  have hb : Below (w.heap.size + 1) wr w1 := (Below.refl _ _).grown hg h.base fun k hk => (hlt k hk).1
  refine ⟨h.inb.below' hb, ho, hv, fun j hj => ?_⟩
  obtain ⟨N, h1, h2, h3⟩ := h.ptr j hj
  refine ⟨N, h1, h2, ?_⟩
  rw [hg.block N (Array.getElem?_eq_some_iff.1 h3).1 (other_row h.own h3)]
  exact h3

theorem EncInv.alloc {p : Pkt} {w : World} {ao : Option Addr} {wr : World} {b : Value} {xs : List Int} (h : EncInv p w ao wr b xs) (o : Obj) : EncInv p w ao (wr.alloc o) b xs := by
  refine ⟨h.inb.below' ((Below.refl _ _).alloc h.base _), h.own.alloc o, h.nn, fun j hj => ?_⟩
  obtain ⟨N, h1, h2, h3⟩ := h.ptr j hj
  refine ⟨N, h1, h2, ?_⟩
  rw [Below.heap_alloc wr o N (Array.getElem?_eq_some_iff.1 h3).1]
  exact h3

theorem EncInv.drew {p : Pkt} {w : World} {ao : Option Addr} {wr : World} {b : Value} {xs : List Int} (h : EncInv p w ao wr b xs) : EncInv p w ao wr.drew b xs := by
  obtain ⟨h1, h2, h3, h4⟩ := h
  obtain ⟨c0, c1, c2, c3, c4, c5, c6, c7, c8, c9, c10, c11, hs, hB⟩ := h1
  exact ⟨⟨c0, c1, c2, c3, c4, c5, c6, c7, c8, c9, c10, c11, hs, hB.drew⟩, h2.drew, h3, h4⟩

theorem EncInv.ptrCell {p : Pkt} {w : World} {ao : Option Addr} {wr : World} {b : Value} {xs : List Int} (h : EncInv p w ao wr b xs) (k : Nat) (hk : k < p.nums.length) {o : Nat} {x : Int} (hox : p.nums[k]? = some (o, x)) :
    ∃ N, ao = some ⟨N, 0, none⟩ ∧ wr.cell? ⟨N, k, none⟩ = some (.pointer (some ⟨w.heap.size, o, none⟩)) := by
  obtain ⟨N, h1, h2, h3⟩ := h.ptr k hk
  refine ⟨N, h1, ?_⟩
  rw [cell_of_row wr N k _ _ _ h3]
  simp [ptrs, hox]

/-- A text's bytes as numbers. -/
def strNums (s : ByteArray) : List Int := s.data.toList.map fun b => (b.toNat : Int)
theorem byteCells_U (s : ByteArray) : byteCells s = U (strNums s) := by simp [byteCells, U, strNums]
theorem strNums_length (s : ByteArray) : (strNums s).length = s.size := by simp [strNums]

/-- A block of two numbers: one that is lost. -/
@[reducible] def LBlk (n : Nat) (d s : Int) (W : World) : Prop :=
  W.heap[n]? = some (.cells #[.int .u32 d, .int .u32 s] 49 (0, 0)) ∧ W.cell? ⟨n, 0, none⟩ = some (.int .u32 d) ∧ W.cell? ⟨n, 1, none⟩ = some (.int .u32 s)
theorem LBlk.start (w : World) (d s : Int) : LBlk w.heap.size d s (w.alloc (.cells #[.int .u32 d, .int .u32 s] 49)).drew :=
  ⟨heap_alloc_new w _, World.cell?_alloc_new w _ _ _, World.cell?_alloc_new w _ _ _⟩
theorem LBlk.grown {n : Nat} {d s : Int} {W W1 : World} {base : Nat} {b : Value} {m : Nat} {xs : List Value} (h : LBlk n d s W) (ho : W.ownsRow base 5 1 b m xs) (hg : W.grownBy W1 b.ownBlock) : LBlk n d s W1 := by
  obtain ⟨h1, h2, h3⟩ := h
  have hne : some n ≠ b.ownBlock := by
    intro he
    rcases ho.2 with ⟨rfl, _⟩ | ⟨g, cap, cur, rfl, _, hg, _⟩
    · simp [Value.ownBlock] at he
    · simp [Value.ownBlock] at he
      subst he
      rw [h1] at hg
      simp at hg
  exact ⟨(hg.block n (Array.getElem?_eq_some_iff.1 h1).1 hne).trans h1, hg.cell h2 hne, hg.cell h3 hne⟩

/-- The bytes of the first k that are lost. -/
def lostB (L : List (Int × Int)) (k : Nat) : List Int := (L.take k).flatMap fun x => b4 x.1 ++ b4 x.2
theorem lostB_succ {L : List (Int × Int)} {k : Nat} {d s : Int} (h : L[k]? = some (d, s)) : lostB L (k + 1) = lostB L k ++ b4 d ++ b4 s := by
  unfold lostB
  rw [List.take_add_one, h]
  simp
theorem flat8_len (l : List (Int × Int)) : (l.flatMap fun x => b4 x.1 ++ b4 x.2).length = 8 * l.length := by
  induction l with
  | nil => rfl
  | cons a l ih => simp only [List.flatMap_cons, List.length_append, ih, b4_length, List.length_cons]; omega
theorem lostB_len (L : List (Int × Int)) (k : Nat) : (lostB L k).length ≤ 8 * L.length := by
  unfold lostB
  rw [flat8_len]
  have := List.length_take_le' k L
  omega
end Go.Proofs.Ytmahaccaglaldaa

namespace Go.Proofs.Ytmahaccaglaldaa
open Go.RowKit

set_option maxHeartbeats 1000000 in
theorem Encode_bad (p : Pkt) (hp : p.Wf) (hg : p.goodB = false) (w : World) :
    Calls Try.prog 6 #[p.val] w fun e w' => e = .returned (.tuple #[.slice none 0 0, .int .i64 1]) ∧ Below w.heap.size w w' := by
  go_enter Try.func6, Try.ntmps6
  go_wp2_with (go_at_call 13; refine (isPacket_any p hp _).mono ?_; rintro e w1 ⟨rfl, hb1⟩)
  go_ret2
  exact ⟨rfl, ((Below.refl _ _).alloc (Nat.le_refl _) _).trans (hb1.mono (by simp))⟩

/-- The cells of a list of what is lost. -/
def HoldsL (w : World) (p : Pkt) (L : List (Int × Int)) : Prop :=
  L.length = p.ln ∧ ∀ j, j < L.length → ∃ lb lo d s, p.la = some ⟨lb, lo, none⟩ ∧ lb < w.heap.size ∧ L[j]? = some (d, s) ∧ 0 ≤ d ∧ d < 4294967296 ∧ 0 ≤ s ∧ s < 4294967296 ∧
    w.cell? ⟨lb, lo + j * 2, none⟩ = some (.int .u32 d) ∧ w.cell? ⟨lb, lo + j * 2 + 1, none⟩ = some (.int .u32 s)

def flagB (p : Pkt) : Int := if p.unk then 8 else 0
theorem flags_f (p : Pkt) (w : World) :
    Calls Try.prog 14 #[p.val] w fun e w' => e = .returned (.int .u8 (flagB p)) ∧ Below w.heap.size w w' := flags_any p w
def Pkt.head (p : Pkt) : List Int := [p.ttl, p.kind, flagB p, 0, p.cnt]

/-- The frame of a packet. -/
def encB (p : Pkt) (L : List (Int × Int)) : List Int := p.head ++ p.numB p.nums.length ++ lostB L L.length ++ strNums p.pay

set_option maxHeartbeats 2000000 in
theorem Encode_good (p : Pkt) (hp : p.Wf) (hg : p.goodB = true) (ht0 : 1 ≤ p.ttl) (ht1 : p.ttl ≤ 255) (hk0 : 1 ≤ p.kind) (hk1 : p.kind ≤ 9) (hc0 : 0 ≤ p.cnt) (hc1 : p.cnt ≤ 255)
    (hln : p.ln ≤ 8) (hpay : p.pay.size ≤ 16)
    (L : List (Int × Int)) (w : World) (hL : HoldsL w p L) :
    Calls Try.prog 6 #[p.val] w fun e w' => ∃ v, e = .returned (.tuple #[v, .int .i64 0]) ∧ Below w.heap.size w w' ∧ v ≠ .slice none 0 0 ∧ w'.ownsRow (w.heap.size + 1) 5 1 v (encB p L).length (U (encB p L)) := by
  go_enter Try.func6, Try.ntmps6
  go_wp2_with (go_at_call 13; refine (isPacket_any p hp _).mono ?_; rintro e w1 ⟨rfl, hb1⟩)
  have ht0' : 0 ≤ p.ttl := by omega
  have hk0' : 0 ≤ p.kind := by omega
  have hk1' : p.kind ≤ 255 := by omega
  have hI := (InB.start0 p w).below hb1
  clear hb1
  go_region_held3 (InB p w) (first | exact InB.drew' (by assumption) | assumption | exact InB.below (by assumption) (by assumption) | exact InB.below (by assumption) ((Below.refl _ _).alloc (Nat.le_refl _) _)) (first
    | (go_at_call 14; refine (flags_f p _).mono ?_; rintro e w2 ⟨rfl, hb2⟩)
    | (go_at_call 15; refine (count_any p _).mono ?_; rintro e w3 ⟨rfl, hb3⟩))
  rename_i hI3
  rw [IntWalk.u8_in _ ⟨ht0', ht1⟩, IntWalk.u8_in _ ⟨hk0', hk1'⟩, IntWalk.u8_in _ ⟨hc0, hc1⟩] at hI3 ⊢
  have hz3 : w.heap.size + 1 ≤ w3.heap.size := by
    obtain ⟨_, _, _, _, _, _, _, _, _, _, _, _, hs, _⟩ := hI
    have h2 := hb2.size
    have h3 := hb3.size
    simp only [World.size_drew] at h2
    omega
  have own0 := own_head (w.heap.size + 1) w3 p.ttl p.kind (flagB p) 0 p.cnt hz3
  clear hI hb2 hb3
  have hnn : (Value.slice (some ⟨w3.heap.size, 0, none⟩) 5 5) ≠ .slice none 0 0 := by simp
  generalize w3.alloc _ = W3 at hI3 own0 ⊢
  generalize Value.slice (some ⟨w3.heap.size, 0, none⟩) 5 5 = b0 at own0 hnn ⊢
  clear hz3
  have hkc := hI3.2.1
  go_wp2_with (go_at_call 16; refine (numbers_any p _ _ hkc).mono ?_; rintro e w4 ⟨ao, rfl, hb4, hptr⟩)
  have hE0 : EncInv p w ao w4 b0 (p.head ++ p.numB 0) := by
    have hI3' := hI3
    obtain ⟨_, _, _, _, _, _, _, _, _, _, _, _, hs, hB⟩ := hI3'
    have hg : W3.grownBy w4 none := ⟨hb4.os, hb4.tape, hb4.output, hb4.size, fun k hk _ => hb4.block k hk⟩
    refine ⟨hI3.below hb4, ?_, hnn, fun j hj => ?_⟩
    · simp only [Pkt.numB, List.take_zero, List.flatMap_nil, List.append_nil]
      exact own0.kept hg (by cases hv : b0.ownBlock <;> simp)
    · obtain ⟨N, h1, h2, h3⟩ := hptr j hj
      exact ⟨N, h1, by omega, h3⟩
  clear hI3 own0 hnn hptr hb4 hkc
  have hn5 := nums_len p
  go_loopw [4, 26] (fun b i wr => ∃ k : Nat, k ≤ p.nums.length ∧ i = .int .i64 k ∧ EncInv p w ao wr b (p.head ++ p.numB k)) (fun _ i _ => p.nums.length - (intOf i).toNat)
  case atStart => exact ⟨0, Nat.zero_le _, rfl, hE0⟩
  case round =>
    clear hE0
    obtain ⟨k, hk, rfl, hE⟩ := hrel
    by_cases hlt : k < p.nums.length
    · obtain ⟨o, x, hox, hcx, hx0, hx1⟩ := nums_cell hp hE.inb k hlt
      obtain ⟨N, rfl, hNk⟩ := hE.ptrCell k hlt hox
      have hlen : (p.head ++ p.numB k).length ≤ 1000000 := by
        have := numB_len p k
        simp only [List.length_append, Pkt.head, List.length_cons, List.length_nil]
        omega
      have hst : Hid (p.numB (k + 1) = p.numB k ++ b4 x) := numB_succ hox
      clear hox
      go_wp2_with (go_at_call 17; refine (appendNumber_any (w.heap.size + 1) _ x (p.head ++ p.numB k) _ hx0 hx1 hE.own hE.nn hE.base hlen).mono ?_; rintro e w5 ⟨v', rfl, hown', hgrow, hnn'⟩)
      go_roundw
      case rel => exact ⟨k + 1, by omega, by go_num, by rw [hst.out, ← List.append_assoc]; exact hE.step hgrow hown' hnn'⟩
      case measure => simp [intOf]; omega
    · obtain rfl : k = p.nums.length := by omega
      obtain ⟨_, _, _, _, _, _, _, _, _, _, c10, c11, hs, hB⟩ := id hE.inb
      clear hk hlt
      go_wp2_with fail
      generalize hla : p.la = la
      have hE1 : EncInv p w ao wr u4 (p.head ++ p.numB p.nums.length ++ lostB L 0) := by
        simpa only [lostB, List.take_zero, List.flatMap_nil, List.append_nil] using hE
      clear hE c10 c11 hs hB
      go_loopw [4, 39] (fun b i wx => ∃ k : Nat, k ≤ p.ln ∧ i = .int .i64 k ∧ EncInv p w ao wx b (p.head ++ p.numB p.nums.length ++ lostB L k)) (fun _ i _ => p.ln - (intOf i).toNat)
      case atStart => exact ⟨0, Nat.zero_le _, rfl, hE1⟩
      case round =>
        clear hE1
        obtain ⟨k, hk, rfl, hE⟩ := hrel
        by_cases hlt : k < p.ln
        · obtain ⟨hLn, hLc⟩ := hL
          obtain ⟨lb, lo, d, s, hpa, hlb, hds, hd0, hd1, hs0, hs1, hcd, hcs⟩ := hLc k (by omega)
          obtain rfl : la = some ⟨lb, lo, none⟩ := hla.symm.trans hpa
          have hB := hE.inb.2.2.2.2.2.2.2.2.2.2.2.2.2
          have hlen : (p.head ++ p.numB p.nums.length ++ lostB L k).length ≤ 900000 := by
            have := numB_len p p.nums.length
            have := lostB_len L k
            simp only [List.length_append, Pkt.head, List.length_cons, List.length_nil]
            omega
          have hst : Hid (lostB L (k + 1) = lostB L k ++ b4 d ++ b4 s) := lostB_succ hds
          have hcd' : wr.cell? ⟨lb, lo + k * 2, none⟩ = some (.int .u32 d) := (hB.cell (p := ⟨lb, lo + k * 2, none⟩) hlb).trans hcd
          have hcs' : wr.cell? ⟨lb, lo + k * 2 + 1, none⟩ = some (.int .u32 s) := (hB.cell (p := ⟨lb, lo + k * 2 + 1, none⟩) hlb).trans hcs
          have hEa := (hE.alloc (.cells #[.int .u32 d, .int .u32 s] 49)).drew
          clear hds hpa hla hcd hcs hLc hLn hB
          go_wp2_with fail
          go_region_held3 (LBlk wr.heap.size d s) (first | exact LBlk.start _ _ _ | assumption | exact LBlk.grown (by assumption) hown5 hgrow6 | exact LBlk.grown (by assumption) hEa.own hgrow5) (first
            | (go_at_call_of 17 (Value.int IntKind.u32 d); refine (appendNumber_any (w.heap.size + 1) _ d (p.head ++ p.numB p.nums.length ++ lostB L k) _ hd0 hd1 hEa.own hEa.nn hEa.base (by omega)).mono ?_; rintro e w5 ⟨v5, rfl, hown5, hgrow5, hnn5⟩)
            | (go_at_call_of 17 (Value.int IntKind.u32 s); refine (appendNumber_any (w.heap.size + 1) _ s (p.head ++ p.numB p.nums.length ++ lostB L k ++ b4 d) _ hs0 hs1 hown5 hnn5 (hEa.step hgrow5 hown5 hnn5).base (by rw [List.length_append, b4_length]; omega)).mono ?_; rintro e w6 ⟨v6, rfl, hown6, hgrow6, hnn6⟩))
          have hE6 := (hEa.step hgrow5 hown5 hnn5).step hgrow6 hown6 hnn6
          clear hown5 hgrow5 hnn5 hown6 hgrow6 hnn6 hEa hE
          go_wp2
          go_roundw
          case rel => exact ⟨k + 1, by omega, by go_num, by rw [hst.out, ← List.append_assoc, ← List.append_assoc]; exact hE6⟩
          case measure => simp [intOf]; omega
        · obtain rfl : k = p.ln := by omega
          obtain ⟨_, _, _, _, _, _, _, _, _, _, c10, c11, hs, hB⟩ := id hE.inb
          obtain ⟨i0, hi, hz0, hz1, hz2⟩ := info_parts info_u8
          have hlen : (p.head ++ p.numB p.nums.length ++ lostB L p.ln).length ≤ 900000 := by
            have := numB_len p p.nums.length
            have := lostB_len L p.ln
            have := hL.1
            simp only [List.length_append, Pkt.head, List.length_cons, List.length_nil]
            omega
          have hbase := hE.base
          have hlt0 := hE.own.lt
          clear hk hlt hla
          go_wp2_with (at_builtin; refine wpList_append_own_src _ rfl _ _ 27 9 rfl (w.heap.size + 1) 5 i0 (.int .u8 0) 1 1 Try.underlying27 hi hz0 hz1 hz2 rfl _ (p.head ++ p.numB p.nums.length ++ lostB L p.ln).length (U (p.head ++ p.numB p.nums.length ++ lostB L p.ln)) rfl hE.own hE.nn _ p.pay.size (byteCells p.pay) rfl (Src.ofString _ Try.underlying9 p.pay) ?c1 ?c2 ?c3 ?_)
          case c1 => unfold maxLen; omega
          case c2 => omega
          case c3 => exact hbase
          intro v' w7 hown' hgrow hnn'
          go_wp2
          go_ret2
          refine ⟨v', rfl, hB.grown hgrow (Nat.le_of_lt hs) (fun k hk => Nat.le_of_succ_le (hlt0 k hk).1), hnn', ?_⟩
          have hLn : L.length = p.ln := hL.1
          rw [byteCells_U, U_append] at hown'
          have he : encB p L = p.head ++ p.numB p.nums.length ++ lostB L p.ln ++ strNums p.pay := by
            simp only [encB, hLn]
          rw [he]
          simpa only [List.length_append, List.append_assoc, strNums_length, Nat.add_assoc] using hown'
end Go.Proofs.Ytmahaccaglaldaa
