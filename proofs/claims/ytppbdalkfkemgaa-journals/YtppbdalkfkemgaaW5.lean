import Derived.Test.YtppbdalkfkemgaaW4
namespace Go.Proofs.Ytppbdalkfkemgaa
open Go.RowKit

/-- The numbers of a packet: where they stand in it, and what they are. -/
def Pkt.nums (p : Pkt) : List (Nat × Int) :=
  if p.kind = 1 then [(4, p.id), (5, p.dest), (6, p.dseq), (7, p.frm), (8, p.fseq)]
  else if p.kind = 2 then [(5, p.dest), (6, p.dseq), (7, p.frm), (9, p.life)]
  else if p.kind = 9 then [(4, p.id), (5, p.dest), (7, p.frm)]
  else []

def ptrs (B : Nat) (l : List (Nat × Int)) : Array Value := (l.map fun x => Value.pointer (some ⟨B, x.1, none⟩)).toArray

/-- The list of pointers that 'numbers' gives. -/
def Ptrs (B : Nat) (l : List (Nat × Int)) (ao : Option Addr) (base : Nat) (W : World) : Prop :=
  ∀ j, j < l.length → ∃ N, ao = some ⟨N, 0, none⟩ ∧ base ≤ N ∧ W.heap[N]? = some (.cells (ptrs B l) 108 (0, 0))

theorem numbers_any (p : Pkt) (B : Nat) (w : World) (hc : w.cell? ⟨B, 1, none⟩ = some (.int .i64 p.kind)) :
    Calls Try.prog 56 #[.pointer (some ⟨B, 0, none⟩)] w fun e w' => ∃ ao, e = .returned (.slice ao p.nums.length p.nums.length) ∧ Below w.heap.size w w' ∧ Ptrs B p.nums ao w.heap.size w' := by
  have hnew : ∀ o, (w.alloc o).drew.heap[w.heap.size]? = some o := fun o => heap_alloc_new w o
  by_cases h1 : p.kind = 1
  · rw [h1] at hc
    refine (numbers_1 B w hc).mono ?_
    rintro e w' ⟨rfl, rfl⟩
    simp only [Pkt.nums, h1, if_true]
    exact ⟨_, rfl, ((Below.refl _ _).alloc (Nat.le_refl _) _).drew, fun j _ => ⟨_, rfl, Nat.le_refl _, hnew _⟩⟩
  by_cases h2 : p.kind = 2
  · rw [h2] at hc
    refine (numbers_2 B w hc).mono ?_
    rintro e w' ⟨rfl, rfl⟩
    have : p.nums = [(5, p.dest), (6, p.dseq), (7, p.frm), (9, p.life)] := by simp [Pkt.nums, h2]
    rw [this]
    exact ⟨_, rfl, ((Below.refl _ _).alloc (Nat.le_refl _) _).drew, fun j _ => ⟨_, rfl, Nat.le_refl _, hnew _⟩⟩
  by_cases h9 : p.kind = 9
  · rw [h9] at hc
    refine (numbers_9 B w hc).mono ?_
    rintro e w' ⟨rfl, rfl⟩
    have : p.nums = [(4, p.id), (5, p.dest), (7, p.frm)] := by simp [Pkt.nums, h9]
    rw [this]
    exact ⟨_, rfl, ((Below.refl _ _).alloc (Nat.le_refl _) _).drew, fun j _ => ⟨_, rfl, Nat.le_refl _, hnew _⟩⟩
  · refine (numbers_0 B p.kind (by simpa using h1) (by simpa using h2) (by simpa using h9) w hc).mono ?_
    rintro e w' ⟨rfl, rfl⟩
    have : p.nums = [] := by simp [Pkt.nums, h1, h2, h9]
    rw [this]
    exact ⟨none, rfl, Below.refl _ _, fun j hj => absurd hj (by simp)⟩

theorem InB.below' {p : Pkt} {w W W1 : World} (h : InB p w W) (hb : Below (w.heap.size + 1) W W1) : InB p w W1 := by
  obtain ⟨c0, c1, c2, c3, c4, c5, c6, c7, c8, c9, c10, c11, hs, hB⟩ := h
  have k : ∀ i, W1.cell? ⟨w.heap.size, i, none⟩ = W.cell? ⟨w.heap.size, i, none⟩ := fun i => hb.cell (p := ⟨w.heap.size, i, none⟩) (Nat.lt_succ_self _)
  exact ⟨(k _).trans c0, (k _).trans c1, (k _).trans c2, (k _).trans c3, (k _).trans c4, (k _).trans c5, (k _).trans c6, (k _).trans c7, (k _).trans c8, (k _).trans c9, (k _).trans c10, (k _).trans c11,
    Nat.lt_of_lt_of_le hs hb.size, hB.trans (hb.mono (Nat.le_succ _))⟩

theorem nums_len (p : Pkt) : p.nums.length ≤ 5 := by
  unfold Pkt.nums
  split
  · simp
  split
  · simp
  split <;> simp

/-- The bytes of the first k numbers. -/
def Pkt.numB (p : Pkt) (k : Nat) : List Int := (p.nums.take k).flatMap fun x => b4 x.2
theorem numB_succ {p : Pkt} {k o : Nat} {x : Int} (h : p.nums[k]? = some (o, x)) : p.numB (k + 1) = p.numB k ++ b4 x := by
  unfold Pkt.numB
  rw [List.take_add_one, h]
  simp
theorem flat4_len (l : List (Nat × Int)) : (l.flatMap fun x => b4 x.2).length = 4 * l.length := by
  induction l with
  | nil => rfl
  | cons a l ih => simp only [List.flatMap_cons, List.length_append, ih, b4_length, List.length_cons]; omega
theorem numB_len (p : Pkt) (k : Nat) : (p.numB k).length ≤ 20 := by
  unfold Pkt.numB
  rw [flat4_len]
  have := nums_len p
  have := List.length_take_le k p.nums
  have := List.length_take_le' k p.nums
  omega

theorem InB.start0 (p : Pkt) (w : World) : InB p w (w.alloc p.box) :=
  ⟨World.cell?_alloc_new w _ _ _, World.cell?_alloc_new w _ _ _, World.cell?_alloc_new w _ _ _, World.cell?_alloc_new w _ _ _, World.cell?_alloc_new w _ _ _, World.cell?_alloc_new w _ _ _,
   World.cell?_alloc_new w _ _ _, World.cell?_alloc_new w _ _ _, World.cell?_alloc_new w _ _ _, World.cell?_alloc_new w _ _ _, World.cell?_alloc_new w _ _ _, World.cell?_alloc_new w _ _ _,
   by simp, (Below.refl _ _).alloc (Nat.le_refl _) _⟩
theorem InB.drew' {p : Pkt} {w W : World} (h : InB p w W) : InB p w W.drew := by
  obtain ⟨c0, c1, c2, c3, c4, c5, c6, c7, c8, c9, c10, c11, hs, hB⟩ := h
  exact ⟨c0, c1, c2, c3, c4, c5, c6, c7, c8, c9, c10, c11, hs, hB.drew⟩

theorem nums_cell {p : Pkt} {w W : World} (hp : p.Wf) (h : InB p w W) (k : Nat) (hk : k < p.nums.length) :
    ∃ o x, p.nums[k]? = some (o, x) ∧ W.cell? ⟨w.heap.size, o, none⟩ = some (.int .u32 x) ∧ 0 ≤ x ∧ x < 4294967296 := by
  obtain ⟨c0, c1, c2, c3, c4, c5, c6, c7, c8, c9, c10, c11, hs, hB⟩ := h
  obtain ⟨h1, h2, h3, h4, h5, h6, i0, i1, d0, d1, s0, s1, f0, f1, g0, g1, l0, l1, h19, h20⟩ := hp
  have hall : ∀ ox ∈ p.nums, W.cell? ⟨w.heap.size, ox.1, none⟩ = some (.int .u32 ox.2) ∧ 0 ≤ ox.2 ∧ ox.2 < 4294967296 := by
    unfold Pkt.nums
    split
    · simp [*]
    split
    · simp [*]
    split
    · simp [*]
    · simp
  have hm := hall _ (List.getElem_mem hk)
  exact ⟨_, _, List.getElem?_eq_getElem hk, hm.1, hm.2⟩

/-- What the two loops of Encode hold on to. -/
structure EncInv (p : Pkt) (w : World) (ao : Option Addr) (wr : World) (b : Value) (xs : List Int) : Prop where
  inb : InB p w wr
  own : wr.ownsRow (w.heap.size + 1) 5 1 b xs.length (U xs)
  nn : b ≠ .slice none 0 0
  ptr : Ptrs w.heap.size p.nums ao (w.heap.size + 1) wr

theorem EncInv.base {p : Pkt} {w : World} {ao : Option Addr} {wr : World} {b : Value} {xs : List Int} (h : EncInv p w ao wr b xs) : w.heap.size + 1 ≤ wr.heap.size := by
  obtain ⟨_, _, _, _, _, _, _, _, _, _, _, _, hs, _⟩ := h.inb
  omega

theorem other_row {W : World} {base : Nat} {b : Value} {n : Nat} {xs : List Value} (h : W.ownsRow base 5 1 b n xs) {N : Nat} {c : Array Value} {f : Nat × Nat}
    (hN : W.heap[N]? = some (.cells c 108 f)) : some N ≠ b.ownBlock := by
  intro he
  rcases h.2 with ⟨rfl, _⟩ | ⟨g, cap, cur, rfl, _, hg, _⟩
  · simp [Value.ownBlock] at he
  · simp [Value.ownBlock] at he
    subst he
    rw [hN] at hg
    simp at hg

theorem own_head (base : Nat) (w : World) (x0 x1 x2 x3 x4 : Int) (hb : base ≤ w.heap.size) :
    (w.alloc (.cells #[.int .u8 x0, .int .u8 x1, .int .u8 x2, .int .u8 x3, .int .u8 x4] 5)).ownsRow base 5 1 (.slice (some ⟨w.heap.size, 0, none⟩) 5 5) [x0, x1, x2, x3, x4].length (U [x0, x1, x2, x3, x4]) :=
  ⟨rfl, .inr ⟨w.heap.size, 5, _, rfl, hb, heap_alloc_new w _, Nat.le_refl _, by decide, rfl, rfl⟩⟩

theorem EncInv.step {p : Pkt} {w : World} {ao : Option Addr} {wr w1 : World} {b v' : Value} {xs ys : List Int} (h : EncInv p w ao wr b xs)
    (hg : wr.grownBy w1 b.ownBlock) (ho : w1.ownsRow (w.heap.size + 1) 5 1 v' ys.length (U ys)) (hv : v' ≠ .slice none 0 0) : EncInv p w ao w1 v' ys := by
  have hlt := h.own.lt
  have hb : Below (w.heap.size + 1) wr w1 := (Below.refl _ _).grown hg h.base fun k hk => (hlt k hk).1
  refine ⟨h.inb.below' hb, ho, hv, fun j hj => ?_⟩
  obtain ⟨N, h1, h2, h3⟩ := h.ptr j hj
  refine ⟨N, h1, h2, ?_⟩
  rw [hg.block N (Array.getElem?_eq_some_iff.1 h3).1 (other_row h.own h3)]
  exact h3

theorem EncInv.alloc {p : Pkt} {w : World} {ao : Option Addr} {wr : World} {b : Value} {xs : List Int} (h : EncInv p w ao wr b xs) (o : Obj) : EncInv p w ao (wr.alloc o) b xs := by
  refine ⟨h.inb.below' ((Below.refl _ _).alloc h.base _), h.own.alloc o, h.nn, fun j hj => ?_⟩
  obtain ⟨N, h1, h2, h3⟩ := h.ptr j hj
  refine ⟨N, h1, h2, ?_⟩
  rw [Below.heap_alloc wr o N (Array.getElem?_eq_some_iff.1 h3).1]
  exact h3

theorem EncInv.drew {p : Pkt} {w : World} {ao : Option Addr} {wr : World} {b : Value} {xs : List Int} (h : EncInv p w ao wr b xs) : EncInv p w ao wr.drew b xs := by
  obtain ⟨h1, h2, h3, h4⟩ := h
  obtain ⟨c0, c1, c2, c3, c4, c5, c6, c7, c8, c9, c10, c11, hs, hB⟩ := h1
  exact ⟨⟨c0, c1, c2, c3, c4, c5, c6, c7, c8, c9, c10, c11, hs, hB.drew⟩, h2.drew, h3, h4⟩

theorem EncInv.ptrCell {p : Pkt} {w : World} {ao : Option Addr} {wr : World} {b : Value} {xs : List Int} (h : EncInv p w ao wr b xs) (k : Nat) (hk : k < p.nums.length) {o : Nat} {x : Int} (hox : p.nums[k]? = some (o, x)) :
    ∃ N, ao = some ⟨N, 0, none⟩ ∧ wr.cell? ⟨N, k, none⟩ = some (.pointer (some ⟨w.heap.size, o, none⟩)) := by
  obtain ⟨N, h1, h2, h3⟩ := h.ptr k hk
  refine ⟨N, h1, ?_⟩
  rw [cell_of_row wr N k _ _ _ h3]
  simp [ptrs, hox]

/-- A text's bytes as numbers. -/
def strNums (s : ByteArray) : List Int := s.data.toList.map fun b => (b.toNat : Int)
theorem byteCells_U (s : ByteArray) : byteCells s = U (strNums s) := by simp [byteCells, U, strNums]
theorem strNums_length (s : ByteArray) : (strNums s).length = s.size := by simp [strNums]

/-- A block of two numbers: one that is lost. -/
@[reducible] def LBlk (n : Nat) (d s : Int) (W : World) : Prop :=
  W.heap[n]? = some (.cells #[.int .u32 d, .int .u32 s] 87 (0, 0)) ∧ W.cell? ⟨n, 0, none⟩ = some (.int .u32 d) ∧ W.cell? ⟨n, 1, none⟩ = some (.int .u32 s)
theorem LBlk.start (w : World) (d s : Int) : LBlk w.heap.size d s (w.alloc (.cells #[.int .u32 d, .int .u32 s] 87)).drew :=
  ⟨heap_alloc_new w _, World.cell?_alloc_new w _ _ _, World.cell?_alloc_new w _ _ _⟩
theorem LBlk.grown {n : Nat} {d s : Int} {W W1 : World} {base : Nat} {b : Value} {m : Nat} {xs : List Value} (h : LBlk n d s W) (ho : W.ownsRow base 5 1 b m xs) (hg : W.grownBy W1 b.ownBlock) : LBlk n d s W1 := by
  obtain ⟨h1, h2, h3⟩ := h
  have hne : some n ≠ b.ownBlock := by
    intro he
    rcases ho.2 with ⟨rfl, _⟩ | ⟨g, cap, cur, rfl, _, hg, _⟩
    · simp [Value.ownBlock] at he
    · simp [Value.ownBlock] at he
      subst he
      rw [h1] at hg
      simp at hg
  exact ⟨(hg.block n (Array.getElem?_eq_some_iff.1 h1).1 hne).trans h1, hg.cell h2 hne, hg.cell h3 hne⟩

/-- The bytes of the first k that are lost. -/
def lostB (L : List (Int × Int)) (k : Nat) : List Int := (L.take k).flatMap fun x => b4 x.1 ++ b4 x.2
theorem lostB_succ {L : List (Int × Int)} {k : Nat} {d s : Int} (h : L[k]? = some (d, s)) : lostB L (k + 1) = lostB L k ++ b4 d ++ b4 s := by
  unfold lostB
  rw [List.take_add_one, h]
  simp
theorem flat8_len (l : List (Int × Int)) : (l.flatMap fun x => b4 x.1 ++ b4 x.2).length = 8 * l.length := by
  induction l with
  | nil => rfl
  | cons a l ih => simp only [List.flatMap_cons, List.length_append, ih, b4_length, List.length_cons]; omega
theorem lostB_len (L : List (Int × Int)) (k : Nat) : (lostB L k).length ≤ 8 * L.length := by
  unfold lostB
  rw [flat8_len]
  have := List.length_take_le' k L
  omega

theorem U_set (ys : List Int) (j : Nat) (x : Int) : U (ys.set j x) = (U ys).set j (.int .u8 x) := by simp [U, List.map_set]

theorem row_shape {W : World} {base e size : Nat} {v : Value} {n : Nat} {xs : List Value} (h : W.ownsRow base e size v n xs) (hv : v ≠ .slice none 0 0) :
    ∃ g cap, v = .slice (some ⟨g, 0, none⟩) n cap ∧ base ≤ g := by
  rcases h.2 with ⟨rfl, _⟩ | ⟨g, cap, cur, rfl, hb, _⟩
  · exact absurd rfl hv
  · exact ⟨g, cap, rfl, hb⟩
end Go.Proofs.Ytppbdalkfkemgaa
