import Derived.Test.YtakaadcpaeiccabGreatGC
import Derived.Test.YtakaadcpaeiccabGreatL1
import Derived.ProofKit
import Derived.OpenShut
import Derived.Deep.Slices
import Derived.Deep.Strs
namespace Go.Proofs.YtakaadcpaeiccabGreat
open Go.ChangeShapes Go.WideShapes Go.RowKit Go.Deep

/-- A slice's cells. -/
def HoldsC (W : World) (ao : Option Addr) (cs : List Value) : Prop :=
  ∀ (j : Nat) (u : Value), cs[j]? = some u → ∃ b o, ao = some ⟨b, o, none⟩ ∧ b < W.heap.size ∧ W.cell? ⟨b, o + j, none⟩ = some u
theorem HoldsC.below {W W' : World} {ao : Option Addr} {cs : List Value} (h : HoldsC W ao cs) (hb : Below W.heap.size W W') : HoldsC W' ao cs := by
  intro j u hj
  obtain ⟨b, o, h1, h2, h3⟩ := h j u hj
  exact ⟨b, o, h1, Nat.lt_of_lt_of_le h2 hb.size, (hb.cell (p := ⟨b, o + j, none⟩) h2).trans h3⟩
theorem HoldsC.one {W : World} {ao : Option Addr} {cs : List Value} (h : HoldsC W ao cs) {b o : Nat} (hb : ao = some ⟨b, o, none⟩) {j : Nat} {u : Value} (hj : cs[j]? = some u) : W.cell? ⟨b, o + j, none⟩ = some u := by
  obtain ⟨b', o', h1, h2, h3⟩ := h j u hj
  rw [hb] at h1
  simp only [Option.some.injEq, Addr.mk.injEq, and_true] at h1
  obtain ⟨rfl, rfl⟩ := h1
  exact h3
theorem HoldsC.src {P : Program} {t e : TypeId} (ht : P.underlying t = some (.slice e)) {W : World} {ao : Option Addr} {cs : List Value} (h : HoldsC W ao cs) {size n : Nat} (c : Nat) (hl : cs.length = n * size) (hs : 0 < size) (h1 : ∀ u ∈ cs, u.oneCell' = true) :
    Src P size t (.slice ao n c) n cs W := by
  by_cases h0 : cs = []
  · subst h0
    obtain rfl : n = 0 := by
      rcases Nat.mul_eq_zero.1 hl.symm with h | h
      · exact h
      · omega
    cases ao with
    | none => exact Src.ofNil W ht c
    | some a => exact Src.ofSlice W ht a 0 c [] (by simp) (fun j u hj => by simp at hj) (fun u hu => by cases hu)
  · obtain ⟨u, hu⟩ : ∃ u, cs[0]? = some u := by
      cases cs with
      | nil => exact absurd rfl h0
      | cons u r => exact ⟨u, rfl⟩
    obtain ⟨b, o, rfl, _⟩ := h 0 u hu
    refine Src.ofSlice W ht _ n c cs hl (fun j u hj => ?_) h1
    have hadd : (⟨b, o, none⟩ : Addr).add j = ⟨b, o + j, none⟩ := by unfold Addr.add; split <;> simp_all
    rw [hadd]
    exact h.one rfl hj
theorem HoldsC.ofRow {W : World} {base e size n cap g : Nat} {cs : List Value} (h : W.ownsRow base e size (.slice (some ⟨g, 0, none⟩) n cap) n cs) : HoldsC W (some ⟨g, 0, none⟩) cs := by
  intro j u hj
  have hlt : g < W.heap.size := (h.lt g rfl).2
  have hjl : j < cs.length := by
    rcases Nat.lt_or_ge j cs.length with h | h
    · exact h
    · rw [List.getElem?_eq_none h] at hj; cases hj
  exact ⟨g, 0, rfl, hlt, by rw [Nat.zero_add, h.cellAt j (by rw [← h.1]; exact hjl), hj]⟩

/-- What a number picks. -/
def pickI (c n : Int) : Int := (if c < 0 then -(c + 1) else c) % n
set_option maxHeartbeats 1000000 in
theorem pick_any (c n : Int) (c0 : -9223372036854775808 ≤ c) (c1 : c ≤ 9223372036854775807) (n0 : 0 < n) (n1 : n ≤ 9223372036854775807) (w : World) :
    Calls Tryz.prog 9 #[.int .i64 c, .int .i64 n] w fun e w' => e = .returned (.int .i64 (pickI c n)) ∧ w' = w := by
  by_cases h : c < 0
  · have e : pickI c n = -((c + 1).tmod n) := by
      unfold pickI
      rw [if_pos h, ← Int.neg_tmod, Int.tmod_eq_emod_of_nonneg (by omega)]
    go_enter Tryz.func9, Tryz.ntmps9
    go_wp2
    go_ret
    exact ⟨ret_int e.symm, rfl⟩
  · have e : pickI c n = c % n := by
      unfold pickI
      rw [if_neg h]
    go_enter Tryz.func9, Tryz.ntmps9
    go_wp2
    go_ret
    exact ⟨rfl, rfl⟩
theorem pickI_b (c n : Int) (n0 : 0 < n) : 0 ≤ pickI c n ∧ pickI c n < n := ⟨Int.emod_nonneg _ (by omega), Int.emod_lt_of_pos _ n0⟩

theorem row_form {W : World} {base e size : Nat} {v : Value} {n : Nat} {xs : List Value} (h : W.ownsRow base e size v n xs) : ∃ ao c, v = .slice ao n c ∧ HoldsC W ao xs := by
  rcases id h.2 with ⟨rfl, h0⟩ | ⟨g, cap, cur, rfl, _⟩
  · subst h0
    refine ⟨none, 0, rfl, fun j u hj => ?_⟩
    have hl := h.1
    rw [Nat.zero_mul] at hl
    obtain rfl := List.eq_nil_of_length_eq_zero hl
    simp at hj
  · exact ⟨_, cap, rfl, HoldsC.ofRow h⟩

theorem step_append_kept {W W' : World} {base e size : Nat} {v : Value} {n : Nat} {xs : List Value} (h : W.ownsRow base e size v n xs) (hb : Below W.heap.size W W') : W'.ownsRow base e size v n xs :=
  h.kept (row := none) ⟨hb.os, hb.tape, hb.output, hb.size, fun k hk _ => hb.block k hk⟩ (by cases v.ownBlock <;> simp)

theorem row_shape' {W : World} {base e size : Nat} {v : Value} {n : Nat} {xs : List Value} (h : W.ownsRow base e size v n xs) (hn : 0 < n) :
    ∃ g cap, v = .slice (some ⟨g, 0, none⟩) n cap ∧ base ≤ g := by
  rcases h.2 with ⟨_, h0⟩ | ⟨g, cap, cur, rfl, hb, _⟩
  · omega
  · exact ⟨g, cap, rfl, hb⟩
theorem flat_get {α β : Type} (f : α → List β) (size : Nat) (hs : 0 < size) (hf : ∀ x, (f x).length = size) : ∀ (L : List α) (j : Nat), (L.flatMap f)[j]? = (L[j / size]?).bind fun x => (f x)[j % size]?
  | [], j => by simp
  | a :: L, j => by
    rw [List.flatMap_cons]
    by_cases h : j < size
    · rw [List.getElem?_append_left (by rw [hf]; exact h), Nat.div_eq_of_lt h, Nat.mod_eq_of_lt h]
      rfl
    · rw [List.getElem?_append_right (by rw [hf]; omega), hf, flat_get f size hs hf L (j - size)]
      have e1 : j / size = (j - size) / size + 1 := by
        conv => lhs; rw [show j = (j - size) + size by omega]
        rw [Nat.add_div_right _ hs]
      have e2 : j % size = (j - size) % size := by
        conv => lhs; rw [show j = (j - size) + size by omega]
        rw [Nat.add_mod_right]
      rw [e1, e2, List.getElem?_cons_succ]
theorem flat_length {α β : Type} (f : α → List β) (size : Nat) (hf : ∀ x, (f x).length = size) : ∀ (L : List α), (L.flatMap f).length = L.length * size
  | [] => by simp
  | a :: L => by
    rw [List.flatMap_cons, List.length_append, hf, flat_length f size hf L, List.length_cons, Nat.succ_mul, Nat.add_comm]
theorem flat_at {α β : Type} (f : α → List β) (size : Nat) (hs : 0 < size) (hf : ∀ x, (f x).length = size) (L : List α) (k i : Nat) (hi : i < size) {x : α} (hx : L[k]? = some x) : (L.flatMap f)[k * size + i]? = (f x)[i]? := by
  rw [flat_get f size hs hf]
  have e1 : (k * size + i) / size = k := by
    rw [Nat.add_comm, Nat.add_mul_div_right _ _ hs, Nat.div_eq_of_lt hi, Nat.zero_add]
  have e2 : (k * size + i) % size = i := by
    rw [Nat.add_comm, Nat.add_mul_mod_self_right, Nat.mod_eq_of_lt hi]
  rw [e1, e2, hx]
  rfl

section
variable {H : Type} {enc : TypeId × Value → H} {P : Program}
/-- A slice whose elements are of one make, read. -/
theorem open_rows {W : World} {t e : TypeId} {fuel : Nat} {c : Value} {x : DataW H × List MemPlace} (ht : P.underlying t = some (.slice e)) {size : Nat} (hc : P.cellsOf e = size) (hs : 0 < size) {α : Type} (f : α → List Value) (Q : α → Prop) (hf : ∀ x, (f x).length = size)
    (hd : ∀ n cs y, DataW.trod enc P W 0 (fun _ => true) true n e cs = some y → cs.length = size → ∃ x : α, cs = f x ∧ Q x)
    (h : DataW.trod enc P W 0 (fun _ => true) true fuel t [c] = some x) :
    ∃ (ao : Option Addr) (n cap : Nat) (L : List α), c = .slice ao n cap ∧ L.length = n ∧ n ≤ maxLen ∧ HoldsC W ao (L.flatMap f) ∧ ∀ x ∈ L, Q x := by
  rcases open_slice ht h with ⟨hcs, _⟩ | ⟨a, len, cap, m, n, D, Pl, hcs, _, hl, hmx, hm, _, hx⟩
  · simp only [List.cons.injEq, and_true] at hcs
    exact ⟨none, 0, 0, [], hcs, rfl, Nat.zero_le _, fun j u hj => by simp at hj, fun x hx => by simp at hx⟩
  · simp only [List.cons.injEq, and_true] at hcs
    simp only [if_true] at hm
    rw [hc] at hx
    have hspot0 : 0 < len → a.spot = none := by
      intro h0
      obtain ⟨cs', h1, _⟩ := hx 0 (by omega)
      obtain ⟨_, hlen, hget⟩ := World.cells?_some h1
      have q0 := hget 0 (by omega)
      have hsome : cs'[0]? = some cs'[0] := List.getElem?_eq_getElem (by omega)
      rw [hsome] at q0
      have h := World.cell?_spot q0
      simpa [Addr.add] using h
    have key : ∀ i, i < len → ∃ y : α, Q y ∧ ∃ b off, a = ⟨b, off, none⟩ ∧ b < W.heap.size ∧ ∀ j u, (f y)[j]? = some u → W.cell? ⟨b, off + (i * size + j), none⟩ = some u := by
      intro i hi
      obtain ⟨cs', h1, h2⟩ := hx i (by omega)
      obtain ⟨_, hlen, hget⟩ := World.cells?_some h1
      obtain ⟨y, rfl, hq⟩ := hd _ _ _ h2 hlen
      obtain ⟨b, off, spot⟩ := a
      obtain rfl : spot = none := hspot0 (by omega)
      have hcell : ∀ j u, (f y)[j]? = some u → W.cell? ⟨b, off + (i * size + j), none⟩ = some u := by
        intro j u hj
        have hjl : j < size := by
          rcases Nat.lt_or_ge j (f y).length with h | h
          · rw [hlen] at h; exact h
          · rw [List.getElem?_eq_none h] at hj; cases hj
        have q := hget j hjl
        rw [add_plain, add_plain, hj] at q
        rw [← Nat.add_assoc]
        exact q
      obtain ⟨u, hu⟩ : ∃ u, (f y)[0]? = some u := ⟨_, List.getElem?_eq_getElem (by omega)⟩
      exact ⟨y, hq, b, off, rfl, World.block_lt_of_cell? W _ (hcell 0 u hu), hcell⟩
    obtain ⟨L, hL, hLx⟩ := list_of len key
    refine ⟨some a, len, cap, L, hcs, hL, by omega, fun j u hj => ?_, fun x hx => ?_⟩
    · rw [flat_get f size hs hf] at hj
      have hjl : j / size < len := by
        rcases Nat.lt_or_ge (j / size) len with h | h
        · exact h
        · rw [List.getElem?_eq_none (by omega)] at hj; cases hj
      obtain ⟨y, hy, _, b, off, rfl, hb, hcell⟩ := hLx _ hjl
      rw [hy] at hj
      have := hcell _ _ hj
      rw [Nat.div_add_mod' j size] at this
      exact ⟨b, off, rfl, hb, this⟩
    · obtain ⟨j, hj, rfl⟩ := List.mem_iff_getElem.1 hx
      obtain ⟨y, hy, hq, _⟩ := hLx j (by omega)
      rw [List.getElem?_eq_getElem hj] at hy
      cases hy
      exact hq
end
end Go.Proofs.YtakaadcpaeiccabGreat
