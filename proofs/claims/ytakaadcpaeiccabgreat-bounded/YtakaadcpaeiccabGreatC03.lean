import Derived.Test.YtakaadcpaeiccabGreatC01
import Derived.Test.YtakaadcpaeiccabGreatC02
import Derived.ProofKit
import Derived.OpenShut
import Derived.Deep.Slices
import Derived.Deep.Strs
import Derived.Maps.OwnSet
import Derived.BigRegion
import Derived.ChangeAlike
import Derived.Deep.RegionHeld3
namespace Go.Proofs.YtakaadcpaeiccabGreat
open Go.ChangeShapes Go.WideShapes Go.RowKit Go.Deep

/-- A slice's cells. -/
def HoldsC (W : World) (ao : Option Addr) (cs : List Value) : Prop :=
  ∀ (j : Nat) (u : Value), cs[j]? = some u → ∃ b o, ao = some ⟨b, o, none⟩ ∧ b < W.heap.size ∧ W.cell? ⟨b, o + j, none⟩ = some u
theorem HoldsC.below {W W' : World} {ao : Option Addr} {cs : List Value} (h : HoldsC W ao cs) (hb : Below W.heap.size W W') : HoldsC W' ao cs := by
  intro j u hj
  obtain ⟨b, o, h1, h2, h3⟩ := h j u hj
  exact ⟨b, o, h1, Nat.lt_of_lt_of_le h2 hb.size, (hb.cell (p := ⟨b, o + j, none⟩) h2).trans h3⟩
theorem HoldsC.one {W : World} {ao : Option Addr} {cs : List Value} (h : HoldsC W ao cs) {b o : Nat} (hb : ao = some ⟨b, o, none⟩) {j : Nat} {u : Value} (hj : cs[j]? = some u) : W.cell? ⟨b, o + j, none⟩ = some u := by
  obtain ⟨b', o', h1, h2, h3⟩ := h j u hj
  rw [hb] at h1
  simp only [Option.some.injEq, Addr.mk.injEq, and_true] at h1
  obtain ⟨rfl, rfl⟩ := h1
  exact h3
theorem HoldsC.src {P : Program} {t e : TypeId} (ht : P.underlying t = some (.slice e)) {W : World} {ao : Option Addr} {cs : List Value} (h : HoldsC W ao cs) {size n : Nat} (c : Nat) (hl : cs.length = n * size) (hs : 0 < size) (h1 : ∀ u ∈ cs, u.oneCell' = true) :
    Src P size t (.slice ao n c) n cs W := by
  by_cases h0 : cs = []
  · subst h0
    obtain rfl : n = 0 := by
      rcases Nat.mul_eq_zero.1 hl.symm with h | h
      · exact h
      · omega
    cases ao with
    | none => exact Src.ofNil W ht c
    | some a => exact Src.ofSlice W ht a 0 c [] (by simp) (fun j u hj => by simp at hj) (fun u hu => by cases hu)
  · obtain ⟨u, hu⟩ : ∃ u, cs[0]? = some u := by
      cases cs with
      | nil => exact absurd rfl h0
      | cons u r => exact ⟨u, rfl⟩
    obtain ⟨b, o, rfl, _⟩ := h 0 u hu
    refine Src.ofSlice W ht _ n c cs hl (fun j u hj => ?_) h1
    have hadd : (⟨b, o, none⟩ : Addr).add j = ⟨b, o + j, none⟩ := by unfold Addr.add; split <;> simp_all
    rw [hadd]
    exact h.one rfl hj
theorem HoldsC.ofRow {W : World} {base e size n cap g : Nat} {cs : List Value} (h : W.ownsRow base e size (.slice (some ⟨g, 0, none⟩) n cap) n cs) : HoldsC W (some ⟨g, 0, none⟩) cs := by
  intro j u hj
  have hlt : g < W.heap.size := (h.lt g rfl).2
  have hjl : j < cs.length := by
    rcases Nat.lt_or_ge j cs.length with h | h
    · exact h
    · rw [List.getElem?_eq_none h] at hj; cases hj
  exact ⟨g, 0, rfl, hlt, by rw [Nat.zero_add, h.cellAt j (by rw [← h.1]; exact hjl), hj]⟩

/-- What a number picks. -/
def pickI (c n : Int) : Int := (if c < 0 then -(c + 1) else c) % n
set_option maxHeartbeats 1000000 in
theorem pick_any (c n : Int) (c0 : -9223372036854775808 ≤ c) (c1 : c ≤ 9223372036854775807) (n0 : 0 < n) (n1 : n ≤ 9223372036854775807) (w : World) :
    Calls Tryz.prog 9 #[.int .i64 c, .int .i64 n] w fun e w' => e = .returned (.int .i64 (pickI c n)) ∧ w' = w := by
  by_cases h : c < 0
  · have e : pickI c n = -((c + 1).tmod n) := by
      unfold pickI
      rw [if_pos h, ← Int.neg_tmod, Int.tmod_eq_emod_of_nonneg (by omega)]
    go_enter Tryz.func9, Tryz.ntmps9
    go_wp2
    go_ret
    exact ⟨ret_int e.symm, rfl⟩
  · have e : pickI c n = c % n := by
      unfold pickI
      rw [if_neg h]
    go_enter Tryz.func9, Tryz.ntmps9
    go_wp2
    go_ret
    exact ⟨rfl, rfl⟩
theorem pickI_b (c n : Int) (n0 : 0 < n) : 0 ≤ pickI c n ∧ pickI c n < n := ⟨Int.emod_nonneg _ (by omega), Int.emod_lt_of_pos _ n0⟩

theorem row_form {W : World} {base e size : Nat} {v : Value} {n : Nat} {xs : List Value} (h : W.ownsRow base e size v n xs) : ∃ ao c, v = .slice ao n c ∧ HoldsC W ao xs := by
  rcases id h.2 with ⟨rfl, h0⟩ | ⟨g, cap, cur, rfl, _⟩
  · subst h0
    refine ⟨none, 0, rfl, fun j u hj => ?_⟩
    have hl := h.1
    rw [Nat.zero_mul] at hl
    obtain rfl := List.eq_nil_of_length_eq_zero hl
    simp at hj
  · exact ⟨_, cap, rfl, HoldsC.ofRow h⟩

theorem step_append_kept {W W' : World} {base e size : Nat} {v : Value} {n : Nat} {xs : List Value} (h : W.ownsRow base e size v n xs) (hb : Below W.heap.size W W') : W'.ownsRow base e size v n xs :=
  h.kept (row := none) ⟨hb.os, hb.tape, hb.output, hb.size, fun k hk _ => hb.block k hk⟩ (by cases v.ownBlock <;> simp)

theorem row_shape' {W : World} {base e size : Nat} {v : Value} {n : Nat} {xs : List Value} (h : W.ownsRow base e size v n xs) (hn : 0 < n) :
    ∃ g cap, v = .slice (some ⟨g, 0, none⟩) n cap ∧ base ≤ g := by
  rcases h.2 with ⟨_, h0⟩ | ⟨g, cap, cur, rfl, hb, _⟩
  · omega
  · exact ⟨g, cap, rfl, hb⟩
theorem flat_get {α β : Type} (f : α → List β) (size : Nat) (hs : 0 < size) (hf : ∀ x, (f x).length = size) : ∀ (L : List α) (j : Nat), (L.flatMap f)[j]? = (L[j / size]?).bind fun x => (f x)[j % size]?
  | [], j => by simp
  | a :: L, j => by
    rw [List.flatMap_cons]
    by_cases h : j < size
    · rw [List.getElem?_append_left (by rw [hf]; exact h), Nat.div_eq_of_lt h, Nat.mod_eq_of_lt h]
      rfl
    · rw [List.getElem?_append_right (by rw [hf]; omega), hf, flat_get f size hs hf L (j - size)]
      have e1 : j / size = (j - size) / size + 1 := by
        conv => lhs; rw [show j = (j - size) + size by omega]
        rw [Nat.add_div_right _ hs]
      have e2 : j % size = (j - size) % size := by
        conv => lhs; rw [show j = (j - size) + size by omega]
        rw [Nat.add_mod_right]
      rw [e1, e2, List.getElem?_cons_succ]
theorem flat_length {α β : Type} (f : α → List β) (size : Nat) (hf : ∀ x, (f x).length = size) : ∀ (L : List α), (L.flatMap f).length = L.length * size
  | [] => by simp
  | a :: L => by
    rw [List.flatMap_cons, List.length_append, hf, flat_length f size hf L, List.length_cons, Nat.succ_mul, Nat.add_comm]
theorem flat_at {α β : Type} (f : α → List β) (size : Nat) (hs : 0 < size) (hf : ∀ x, (f x).length = size) (L : List α) (k i : Nat) (hi : i < size) {x : α} (hx : L[k]? = some x) : (L.flatMap f)[k * size + i]? = (f x)[i]? := by
  rw [flat_get f size hs hf]
  have e1 : (k * size + i) / size = k := by
    rw [Nat.add_comm, Nat.add_mul_div_right _ _ hs, Nat.div_eq_of_lt hi, Nat.zero_add]
  have e2 : (k * size + i) % size = i := by
    rw [Nat.add_comm, Nat.add_mul_mod_self_right, Nat.mod_eq_of_lt hi]
  rw [e1, e2, hx]
  rfl

section
variable {H : Type} {enc : TypeId × Value → H} {P : Program}
/-- A slice whose elements are of one make, read. -/
theorem open_rows {W : World} {t e : TypeId} {fuel : Nat} {c : Value} {x : DataW H × List MemPlace} (ht : P.underlying t = some (.slice e)) {size : Nat} (hc : P.cellsOf e = size) (hs : 0 < size) {α : Type} (f : α → List Value) (Q : α → Prop) (hf : ∀ x, (f x).length = size)
    (hd : ∀ n cs y, DataW.trod enc P W 0 (fun _ => true) true n e cs = some y → cs.length = size → ∃ x : α, cs = f x ∧ Q x)
    (h : DataW.trod enc P W 0 (fun _ => true) true fuel t [c] = some x) :
    ∃ (ao : Option Addr) (n cap : Nat) (L : List α), c = .slice ao n cap ∧ L.length = n ∧ n ≤ maxLen ∧ HoldsC W ao (L.flatMap f) ∧ ∀ x ∈ L, Q x := by
  rcases open_slice ht h with ⟨hcs, _⟩ | ⟨a, len, cap, m, n, D, Pl, hcs, _, hl, hmx, hm, _, hx⟩
  · simp only [List.cons.injEq, and_true] at hcs
    exact ⟨none, 0, 0, [], hcs, rfl, Nat.zero_le _, fun j u hj => by simp at hj, fun x hx => by simp at hx⟩
  · simp only [List.cons.injEq, and_true] at hcs
    simp only [if_true] at hm
    rw [hc] at hx
    have hspot0 : 0 < len → a.spot = none := by
      intro h0
      obtain ⟨cs', h1, _⟩ := hx 0 (by omega)
      obtain ⟨_, hlen, hget⟩ := World.cells?_some h1
      have q0 := hget 0 (by omega)
      have hsome : cs'[0]? = some cs'[0] := List.getElem?_eq_getElem (by omega)
      rw [hsome] at q0
      have h := World.cell?_spot q0
      simpa [Addr.add] using h
    have key : ∀ i, i < len → ∃ y : α, Q y ∧ ∃ b off, a = ⟨b, off, none⟩ ∧ b < W.heap.size ∧ ∀ j u, (f y)[j]? = some u → W.cell? ⟨b, off + (i * size + j), none⟩ = some u := by
      intro i hi
      obtain ⟨cs', h1, h2⟩ := hx i (by omega)
      obtain ⟨_, hlen, hget⟩ := World.cells?_some h1
      obtain ⟨y, rfl, hq⟩ := hd _ _ _ h2 hlen
      obtain ⟨b, off, spot⟩ := a
      obtain rfl : spot = none := hspot0 (by omega)
      have hcell : ∀ j u, (f y)[j]? = some u → W.cell? ⟨b, off + (i * size + j), none⟩ = some u := by
        intro j u hj
        have hjl : j < size := by
          rcases Nat.lt_or_ge j (f y).length with h | h
          · rw [hlen] at h; exact h
          · rw [List.getElem?_eq_none h] at hj; cases hj
        have q := hget j hjl
        rw [add_plain, add_plain, hj] at q
        rw [← Nat.add_assoc]
        exact q
      obtain ⟨u, hu⟩ : ∃ u, (f y)[0]? = some u := ⟨_, List.getElem?_eq_getElem (by omega)⟩
      exact ⟨y, hq, b, off, rfl, World.block_lt_of_cell? W _ (hcell 0 u hu), hcell⟩
    obtain ⟨L, hL, hLx⟩ := list_of len key
    refine ⟨some a, len, cap, L, hcs, hL, by omega, fun j u hj => ?_, fun x hx => ?_⟩
    · rw [flat_get f size hs hf] at hj
      have hjl : j / size < len := by
        rcases Nat.lt_or_ge (j / size) len with h | h
        · exact h
        · rw [List.getElem?_eq_none (by omega)] at hj; cases hj
      obtain ⟨y, hy, _, b, off, rfl, hb, hcell⟩ := hLx _ hjl
      rw [hy] at hj
      have := hcell _ _ hj
      rw [Nat.div_add_mod' j size] at this
      exact ⟨b, off, rfl, hb, this⟩
    · obtain ⟨j, hj, rfl⟩ := List.mem_iff_getElem.1 hx
      obtain ⟨y, hy, hq, _⟩ := hLx j (by omega)
      rw [List.getElem?_eq_getElem hj] at hy
      cases hy
      exact hq
end
end Go.Proofs.YtakaadcpaeiccabGreat

namespace Go.Proofs.YtakaadcpaeiccabGreat.Hp

/-- Something that is to happen: its time, its id, what it is. -/
abbrev Tm := Int × Int × Int
def z : Tm := (0, 0, 0)
def ahd (a b : Tm) : Bool := if a.1 = b.1 then decide (a.2.1 < b.2.1) else decide (a.1 < b.1)
/-- a is not behind b. -/
def Le (a b : Tm) : Prop := ahd b a = false
theorem Le.iff {a b : Tm} : Le a b ↔ a.1 < b.1 ∨ (a.1 = b.1 ∧ a.2.1 ≤ b.2.1) := by
  unfold Le ahd
  split <;> simp <;> omega
theorem ahd_iff {a b : Tm} : ahd a b = true ↔ a.1 < b.1 ∨ (a.1 = b.1 ∧ a.2.1 < b.2.1) := by
  unfold ahd
  split <;> simp <;> omega
theorem Le.refl (a : Tm) : Le a a := Le.iff.2 (by omega)
theorem Le.trans {a b c : Tm} (h1 : Le a b) (h2 : Le b c) : Le a c := by
  rw [Le.iff] at *
  omega
theorem Le.of {a b : Tm} (h : ahd a b = true) : Le a b := by
  rw [ahd_iff] at h
  rw [Le.iff]
  omega

/-- What stands at a place. -/
def at' (h : List Tm) (i : Nat) : Tm := h.getD i z
theorem at_some {h : List Tm} {i : Nat} {x : Tm} (hx : h[i]? = some x) : at' h i = x := by simp [at', List.getD, hx]
theorem at_get {h : List Tm} {i : Nat} (hi : i < h.length) : h[i]? = some (at' h i) := by simp [at', List.getD, List.getElem?_eq_getElem hi]
/-- Two change places. -/
def sw (h : List Tm) (i j : Nat) : List Tm := (h.set i (at' h j)).set j (at' h i)
theorem sw_length (h : List Tm) (i j : Nat) : (sw h i j).length = h.length := by simp [sw]
theorem at_sw {h : List Tm} {i j : Nat} (hi : i < h.length) (hj : j < h.length) (k : Nat) : at' (sw h i j) k = if k = j then at' h i else if k = i then at' h j else at' h k := by
  unfold at' sw
  simp only [List.getD, List.getElem?_set, List.length_set]
  by_cases h1 : k = j
  · subst h1
    simp [hj]
    rfl
  · rw [if_neg h1, if_neg (Ne.symm h1)]
    by_cases h2 : k = i
    · subst h2
      simp [hi]
      rfl
    · rw [if_neg h2, if_neg (Ne.symm h2)]
theorem sw_perm {h : List Tm} {i j : Nat} (hi : i < h.length) (hj : j < h.length) : (sw h i j).Perm h := by
  have e1 : at' h i = h[i] := by simp [at', List.getD, List.getElem?_eq_getElem hi]
  have e2 : at' h j = h[j] := by simp [at', List.getD, List.getElem?_eq_getElem hj]
  unfold sw
  rw [e1, e2]
  exact List.set_set_perm hi hj

def par (j : Nat) : Nat := (j - 1) / 2
def Ok (h : List Tm) (j : Nat) : Prop := Le (at' h (par j)) (at' h j)
def Heap (h : List Tm) : Prop := ∀ j, 0 < j → j < h.length → Ok h j
/-- What stands over a place is not behind what stands below it. -/
def Over (h : List Tm) (i : Nat) : Prop := 0 < i → ∀ c, 0 < c → c < h.length → par c = i → Le (at' h (par i)) (at' h c)
def Both (h : List Tm) (i : Nat) : Prop := (∀ j, 0 < j → j < h.length → j ≠ i → par j ≠ i → Ok h j) ∧ Over h i
def Up (h : List Tm) (i : Nat) : Prop := (∀ j, 0 < j → j < h.length → j ≠ i → Ok h j) ∧ Over h i
def Down (h : List Tm) (i : Nat) : Prop := (∀ j, 0 < j → j < h.length → par j ≠ i → Ok h j) ∧ Over h i

theorem par_lt {j : Nat} (h : 0 < j) : par j < j := by unfold par; omega
theorem Up.both {h : List Tm} {i : Nat} (u : Up h i) : Both h i := ⟨fun j h1 h2 h3 _ => u.1 j h1 h2 h3, u.2⟩
theorem Heap.down {h : List Tm} (u : Heap h) (i : Nat) : Down h i := by
  refine ⟨fun j h1 h2 _ => u j h1 h2, fun hi c h1 h2 h3 => ?_⟩
  have hc := u c h1 h2
  unfold Ok at hc
  rw [h3] at hc
  have hl := par_lt h1
  exact (u i hi (by omega)).trans hc
theorem up_step {h : List Tm} {k : Nat} (u : Both h k) (h0 : 0 < k) (hk : k < h.length) (ha : ahd (at' h k) (at' h (par k)) = true) : Up (sw h k (par k)) (par k) := by
  have hp := par_lt h0
  have hs := at_sw hk (show par k < h.length by omega)
  have hle := Le.of ha
  refine ⟨fun j h1 h2 h3 => ?_, fun h1 c h2 h3 h4 => ?_⟩
  · rw [sw_length] at h2
    unfold Ok
    rw [hs, hs]
    rw [if_neg h3]
    by_cases hjk : j = k
    · subst hjk
      rw [if_pos rfl, if_pos rfl]
      exact hle
    · rw [if_neg hjk]
      by_cases hpp : par j = par k
      · rw [if_pos hpp]
        have := u.1 j h1 h2 hjk (by omega)
        unfold Ok at this
        rw [hpp] at this
        exact hle.trans this
      · rw [if_neg hpp]
        by_cases hpk : par j = k
        · rw [if_pos hpk]
          exact u.2 h0 j h1 h2 hpk
        · rw [if_neg hpk]
          exact u.1 j h1 h2 hjk hpk
  · rw [sw_length] at h3
    have hpp := par_lt h1
    rw [hs, hs, if_neg (by omega), if_neg (by omega)]
    have hup : Le (at' h (par (par k))) (at' h (par k)) := u.1 (par k) h1 (by omega) (by omega) (by omega)
    rw [if_neg (by have := par_lt h2; omega)]
    by_cases hck : c = k
    · rw [if_pos hck]
      exact hup
    · rw [if_neg hck]
      have := u.1 c h2 h3 hck (by omega)
      unfold Ok at this
      rw [h4] at this
      exact hup.trans this
theorem Up.top {h : List Tm} (u : Up h 0) : Heap h := fun j h1 h2 => u.1 j h1 h2 (by omega)
theorem Up.done {h : List Tm} {k : Nat} (u : Up h k) (ho : Ok h k) : Heap h := fun j h1 h2 => by
  by_cases hj : j = k
  · subst hj; exact ho
  · exact u.1 j h1 h2 hj
theorem Both.down {h : List Tm} {i : Nat} (u : Both h i) (ho : i = 0 ∨ Ok h i) : Down h i := by
  refine ⟨fun j h1 h2 h3 => ?_, u.2⟩
  by_cases hj : j = i
  · subst hj
    rcases ho with rfl | ho
    · omega
    · exact ho
  · exact u.1 j h1 h2 hj h3
theorem down_step {h : List Tm} {k c : Nat} (u : Down h k) (hc0 : 0 < c) (hc : c < h.length) (hp : par c = k) (ha : ahd (at' h c) (at' h k) = true)
    (hm : ∀ d, 0 < d → d < h.length → par d = k → Le (at' h c) (at' h d)) : Down (sw h k c) c := by
  have hkc := par_lt hc0
  have hk : k < h.length := by omega
  have hs := at_sw hk hc
  have hle := Le.of ha
  refine ⟨fun j h1 h2 h3 => ?_, fun _ d h2 h3 h4 => ?_⟩
  · rw [sw_length] at h2
    unfold Ok
    rw [hs, hs, if_neg h3]
    by_cases hpk : par j = k
    · rw [if_pos hpk]
      by_cases hjc : j = c
      · rw [if_pos hjc]
        exact hle
      · rw [if_neg hjc, if_neg (by have := par_lt h1; omega)]
        exact hm j h1 h2 hpk
    · rw [if_neg hpk, if_neg (by rintro rfl; exact hpk hp)]
      by_cases hjk : j = k
      · subst hjk
        rw [if_pos rfl]
        have := u.2 h1 c hc0 hc hp
        exact this
      · rw [if_neg hjk]
        exact u.1 j h1 h2 hpk
  · rw [sw_length] at h3
    have hpd := par_lt h2
    rw [hs, hs, hp, if_neg (by omega), if_pos rfl, if_neg (by omega), if_neg (by omega)]
    have := u.1 d h2 h3 (by omega)
    unfold Ok at this
    rw [h4] at this
    exact this
theorem Down.done {h : List Tm} {k : Nat} (u : Down h k) (hm : ∀ d, 0 < d → d < h.length → par d = k → Le (at' h k) (at' h d)) : Heap h := fun j h1 h2 => by
  by_cases hp : par j = k
  · unfold Ok
    rw [hp]
    exact hm j h1 h2 hp
  · exact u.1 j h1 h2 hp
theorem Heap.least {h : List Tm} (u : Heap h) : ∀ j, j < h.length → Le (at' h 0) (at' h j) := by
  intro j
  induction j using Nat.strongRecOn with
  | ind j ih =>
    intro hj
    by_cases h0 : j = 0
    · subst h0; exact Le.refl _
    · have hp := par_lt (show 0 < j by omega)
      exact (ih _ hp (by omega)).trans (u j (by omega) hj)

/-- One is taken out: the last one comes into its place. -/
def out (h : List Tm) (i : Nat) : List Tm := (sw h i (h.length - 1)).take (h.length - 1)
theorem out_length (h : List Tm) (i : Nat) : (out h i).length = h.length - 1 := by simp [out, sw_length]
theorem at_out {h : List Tm} {i : Nat} (hi : i < h.length) {k : Nat} (hk : k < h.length - 1) : at' (out h i) k = if k = i then at' h (h.length - 1) else at' h k := by
  have hs := at_sw hi (show h.length - 1 < h.length by omega) k
  rw [if_neg (by omega)] at hs
  rw [← hs]
  unfold out at'
  simp only [List.getD, List.getElem?_take, if_pos hk]
theorem out_both {h : List Tm} {i : Nat} (u : Heap h) (hi : i < h.length - 1) : Both (out h i) i := by
  have ha := fun {k} (hk : k < h.length - 1) => at_out (show i < h.length by omega) hk
  refine ⟨fun j h1 h2 h3 h4 => ?_, fun h1 c h2 h3 h4 => ?_⟩
  · rw [out_length] at h2
    have hp := par_lt h1
    unfold Ok
    rw [ha h2, ha (by omega), if_neg h3, if_neg h4]
    exact u j h1 (by omega)
  · rw [out_length] at h3
    have hp := par_lt h1
    have hq := par_lt h2
    rw [ha h3, ha (by omega), if_neg (by omega), if_neg (by omega)]
    have a := u i h1 (by omega)
    have b := u c h2 (by omega)
    unfold Ok at a b
    rw [h4] at b
    exact a.trans b
theorem out_last {h : List Tm} (u : Heap h) (h0 : 0 < h.length) : Heap (out h (h.length - 1)) := by
  have ha := fun {k} (hk : k < h.length - 1) => at_out (show h.length - 1 < h.length by omega) hk
  intro j h1 h2
  rw [out_length] at h2
  have hp := par_lt h1
  unfold Ok
  rw [ha h2, ha (by omega), if_neg (by omega), if_neg (by omega)]
  exact u j h1 (by omega)
theorem out_perm {h : List Tm} {i : Nat} (hi : i < h.length) : (at' h i :: out h i).Perm h := by
  have hp := sw_perm hi (show h.length - 1 < h.length by omega)
  have hl : (sw h i (h.length - 1))[h.length - 1]? = some (at' h i) := by
    rw [at_get (by rw [sw_length]; omega), at_sw hi (by omega), if_pos rfl]
  have e : sw h i (h.length - 1) = out h i ++ [at' h i] := by
    conv => lhs; rw [← List.take_append_drop (h.length - 1) (sw h i (h.length - 1))]
    unfold out
    congr 1
    have hd : (sw h i (h.length - 1)).length = h.length := sw_length _ _ _
    rw [List.drop_eq_getElem_cons (by omega), List.drop_of_length_le (by omega)]
    rw [List.getElem?_eq_getElem (by omega)] at hl
    rw [Option.some.inj hl]
  rw [e] at hp
  exact (List.perm_append_comm (l₁ := [at' h i]) (l₂ := out h i)).trans hp
theorem add_both {h : List Tm} (u : Heap h) (x : Tm) : Both (h ++ [x]) h.length := by
  have ha : ∀ k, k < h.length → at' (h ++ [x]) k = at' h k := by
    intro k hk
    simp [at', List.getD, List.getElem?_append_left hk]
  refine ⟨fun j h1 h2 h3 _ => ?_, fun h1 c h2 h3 h4 => ?_⟩
  · rw [List.length_append, List.length_singleton] at h2
    have hp := par_lt h1
    unfold Ok
    rw [ha j (by omega), ha _ (by omega)]
    exact u j h1 (by omega)
  · rw [List.length_append, List.length_singleton] at h3
    have := par_lt h2
    omega
theorem Down.leaf {h : List Tm} {i : Nat} (u : Down h i) (hi : h.length ≤ 2 * i + 1) : Heap h := u.done fun d h1 h2 h3 => by
  unfold par at h3
  omega
end Go.Proofs.YtakaadcpaeiccabGreat.Hp

namespace Go.Proofs.YtakaadcpaeiccabGreat
open Go.RowKit Go.Maps
open Hp

theorem ti_law : Keyed Tryz.prog 3 := int_keyed Tryz.underlying3
theorem ti_zero (w : World) : (zeroValue 3).run Tryz.prog w = .ok (.int .i64 0) w := by kernel_rfl
theorem info_tm : (Tryz.prog.info? 254).map (fun i => (i.zero, i.size, i.bytes)) = some (some (.agg #[.int .u64 0, .int .i64 0, .int .i64 0]), 3, 24) := by kernel_rfl

/-- A number that an int holds. -/
def I64 (k : Int) : Prop := -9223372036854775808 ≤ k ∧ k ≤ 9223372036854775807
theorem I64.wf {k : Int} (h : I64 k) : (Lit.int .i64 k).wf = true := WalkArith.wf_i64 h
theorem I64.key {k : Int} (h : I64 k) : keyOf Tryz.prog 3 (.int .i64 k) = some (.int .i64 k) := keyOf_int_mk Tryz.underlying3 h.wf

/-- A map from ids to places. -/
def MapI (W : World) (M : Nat) (f : Int → Option Nat) (s : Nat) : Prop :=
  ∃ D : DataW Unit, W.ownsMap Tryz.prog 3 (plainElem Tryz.prog 3) M s D ∧ Maps.size D = s ∧
    ∀ k, I64 k → Maps.has D (.int .i64 k) = (f k).isSome ∧ ∀ v, f k = some v → ∀ zd, D.atKey (.int .i64 k) zd = .lit (.int .i64 (v : Int))

def upd (f : Int → Option Nat) (k : Int) (v : Option Nat) : Int → Option Nat := fun x => if x = k then v else f x

theorem ownsMap_tight {P : Program} {k : TypeId} {R : Value → Option (DataW Unit × List MemPlace)} {w : World} {b n : Nat} {D : DataW Unit} (h : w.ownsMap P k R b n D) : w.ownsMap P k R b (Maps.size D) D := by
  obtain ⟨es, clock, hb, F, hs, rfl⟩ := h
  refine ⟨es, clock, hb, F, ?_, rfl⟩
  simp [Maps.size, length_sorted]

theorem MapI.made (w : World) : MapI (w.alloc (.map #[] 0)) w.heap.size (fun _ => none) 0 := by
  refine ⟨.map [], World.ownsMap_made w _ _ _, rfl, fun k _ => ⟨?_, fun v hv => by cases hv⟩⟩
  rfl
theorem MapI.kept {W W' : World} {M : Nat} {f : Int → Option Nat} {s : Nat} {row : Option Nat} (h : MapI W M f s) (hg : W.grownBy W' row) (hne : some M ≠ row) : MapI W' M f s := by
  obtain ⟨D, h1, h2, h3⟩ := h
  exact ⟨D, h1.kept hg hne, h2, h3⟩
theorem MapI.lt {W : World} {M : Nat} {f : Int → Option Nat} {s : Nat} (h : MapI W M f s) : M < W.heap.size := by
  obtain ⟨D, h1, _⟩ := h
  exact h1.lt
/-- 'm[k] = v'. -/
theorem MapI.put {W : World} {M : Nat} {f : Int → Option Nat} {s : Nat} (h : MapI W M f s) (hs : s < maxLen) {k : Int} (hk : I64 k) {v : Nat} (hv : I64 (v : Int)) :
    ∃ W', (Instr.mapUpdate 162 (.map (some M)) (.int .i64 k) (.int .i64 (v : Int))).run Tryz.prog W = .ok () W' ∧ MapI W' M (upd f k (some v)) (if (f k).isSome then s else s + 1) ∧ W.grownBy W' (some M) := by
  obtain ⟨D, h1, h2, h3⟩ := h
  obtain ⟨W', hr, ho, ht⟩ := h1.store ti_law Tryz.underlying162 hs hk.key (plainElem_int Tryz.underlying3 hv.wf)
  have hm := h1.isMap
  have htd := h1.tidy ti_law
  have hkl : WideAt.IsKeyLit (.int .i64 k) := by trivial
  have hsz : Maps.size (D.put (.int .i64 k) (.lit (.int .i64 (v : Int)))) = if (f k).isSome then s else s + 1 := by
    rw [size_put htd, (h3 k hk).1, h2]
  refine ⟨W', hr, ⟨_, ?_, hsz, fun x hx => ?_⟩, ht.grown⟩
  · have := ownsMap_tight ho
    rw [hsz] at this
    exact this
  · by_cases e : x = k
    · subst e
      refine ⟨by rw [has_put_same hm hkl]; simp [upd], fun u hu zd => ?_⟩
      simp only [upd, if_true, Option.some.injEq] at hu
      subst hu
      exact atKey_put_same hm hkl _ zd
    · have hne : (Lit.int .i64 x) ≠ .int .i64 k := fun h => e (by cases h; rfl)
      refine ⟨by rw [has_put_other hne]; simp [upd, e, (h3 x hx).1], fun u hu zd => ?_⟩
      simp only [upd, if_neg e] at hu
      rw [atKey_put_other hne]
      exact (h3 x hx).2 u hu zd
/-- 'delete(m, k)'. -/
theorem MapI.del {W : World} {M : Nat} {f : Int → Option Nat} {s : Nat} (h : MapI W M f s) {k : Int} (hk : I64 k) (ty : TypeId) (hf : (f k).isSome = true) :
    ∃ W', (Builtin.delete_ #[162, 3] ty #[.map (some M), .int .i64 k]).run Tryz.prog W = .ok (.tuple #[]) W' ∧ MapI W' M (upd f k none) (s - 1) ∧ W.grownBy W' (some M) := by
  obtain ⟨D, h1, h2, h3⟩ := h
  obtain ⟨W', hr, ho, ht⟩ := h1.drop ti_law Tryz.underlying162 hk.key ty
  have htd := h1.tidy ti_law
  have hsz : Maps.size (D.del (.int .i64 k)) = s - 1 := by
    have := size_del (k := .int .i64 k) htd
    rw [(h3 k hk).1, hf, h2] at this
    simp at this
    omega
  refine ⟨W', hr, ⟨_, ?_, hsz, fun x hx => ?_⟩, ht.grown⟩
  · have := ownsMap_tight ho
    rw [hsz] at this
    exact this
  · by_cases e : x = k
    · subst e
      refine ⟨by rw [has_del_same]; simp [upd], fun u hu zd => ?_⟩
      simp [upd] at hu
    · have hne : (Lit.int .i64 x) ≠ .int .i64 k := fun h => e (by cases h; rfl)
      refine ⟨by rw [has_del_other hne]; simp [upd, e, (h3 x hx).1], fun u hu zd => ?_⟩
      simp only [upd, if_neg e] at hu
      rw [atKey_del_other hne]
      exact (h3 x hx).2 u hu zd
/-- 'v, ok := m[k]'. -/
theorem MapI.look {W : World} {M : Nat} {f : Int → Option Nat} {s : Nat} (h : MapI W M f s) {k : Int} (hk : I64 k) :
    ∃ v : Int, (Instr.lookup 162 (.map (some M)) (.int .i64 k) true).run Tryz.prog W = .ok (.tuple #[.int .i64 v, .bool (f k).isSome]) W ∧ ∀ u, f k = some u → v = (u : Int) := by
  obtain ⟨D, h1, h2, h3⟩ := h
  obtain ⟨v, ps, hr, hv⟩ := h1.look_ok ti_law Tryz.underlying162 (ti_zero W) (plainElem_int Tryz.underlying3 (by decide)) hk.key
  obtain ⟨c, rfl, he, _⟩ := plainElem_int_inv Tryz.underlying3 hv
  rw [(h3 k hk).1] at hr
  refine ⟨c, hr, fun u hu => ?_⟩
  have := (h3 k hk).2 u hu (.lit (.int .i64 0))
  rw [this] at he
  simp at he
  exact he.1.symm
end Go.Proofs.YtakaadcpaeiccabGreat

namespace Go.Proofs.YtakaadcpaeiccabGreat
open Go.RowKit Go.Maps

theorem tu_law : Keyed Tryz.prog 34 := int_keyed Tryz.underlying34
theorem tu_zero (w : World) : (zeroValue 34).run Tryz.prog w = .ok (.int .u32 0) w := by kernel_rfl
/-- A number that a uint32 holds. -/
def U32 (k : Int) : Prop := 0 ≤ k ∧ k ≤ 4294967295
theorem U32.wf {k : Int} (h : U32 k) : (Lit.int .u32 k).wf = true := WalkArith.wf_u32 h
theorem U32.key {k : Int} (h : U32 k) : keyOf Tryz.prog 34 (.int .u32 k) = some (.int .u32 k) := keyOf_int_mk Tryz.underlying34 h.wf
def updU (f : Int → Option Int) (k : Int) (v : Option Int) : Int → Option Int := fun x => if x = k then v else f x

/-- A map from addresses to numbers. -/
def MapU (W : World) (M : Nat) (f : Int → Option Int) (s : Nat) : Prop :=
  ∃ D : DataW Unit, W.ownsMap Tryz.prog 34 (plainElem Tryz.prog 34) M s D ∧ Maps.size D = s ∧
    ∀ k, U32 k → Maps.has D (.int .u32 k) = (f k).isSome ∧ D.atKey (.int .u32 k) (.lit (.int .u32 0)) = .lit (.int .u32 ((f k).getD 0))
theorem MapU.kept {W W' : World} {M : Nat} {f : Int → Option Int} {s : Nat} {row : Option Nat} (h : MapU W M f s) (hg : W.grownBy W' row) (hne : some M ≠ row) : MapU W' M f s := by
  obtain ⟨D, h1, h2, h3⟩ := h
  exact ⟨D, h1.kept hg hne, h2, h3⟩
theorem MapU.lt {W : World} {M : Nat} {f : Int → Option Int} {s : Nat} (h : MapU W M f s) : M < W.heap.size := by
  obtain ⟨D, h1, _⟩ := h
  exact h1.lt
theorem MapU.made (w : World) : MapU (w.alloc (.map #[] 0)) w.heap.size (fun _ => none) 0 :=
  ⟨.map [], World.ownsMap_made w _ _ _, rfl, fun _ _ => ⟨rfl, rfl⟩⟩
/-- 'm[k] = v'. -/
theorem MapU.put {W : World} {M : Nat} {f : Int → Option Int} {s : Nat} (h : MapU W M f s) (hs : s < maxLen) {k : Int} (hk : U32 k) {v : Int} (hv : U32 v) :
    ∃ W', (Instr.mapUpdate 115 (.map (some M)) (.int .u32 k) (.int .u32 v)).run Tryz.prog W = .ok () W' ∧ MapU W' M (updU f k (some v)) (if (f k).isSome then s else s + 1) ∧ W.grownBy W' (some M) := by
  obtain ⟨D, h1, h2, h3⟩ := h
  obtain ⟨W', hr, ho, ht⟩ := h1.store tu_law Tryz.underlying115 hs hk.key (plainElem_int Tryz.underlying34 hv.wf)
  have hm := h1.isMap
  have htd := h1.tidy tu_law
  have hkl : WideAt.IsKeyLit (.int .u32 k) := by trivial
  have hsz : Maps.size (D.put (.int .u32 k) (.lit (.int .u32 v))) = if (f k).isSome then s else s + 1 := by
    rw [size_put htd, (h3 k hk).1, h2]
  refine ⟨W', hr, ⟨_, ?_, hsz, fun x hx => ?_⟩, ht.grown⟩
  · have := ownsMap_tight ho
    rw [hsz] at this
    exact this
  · by_cases e : x = k
    · subst e
      refine ⟨by rw [has_put_same hm hkl]; simp [updU], ?_⟩
      rw [atKey_put_same hm hkl]
      simp [updU]
    · have hne : (Lit.int .u32 x) ≠ .int .u32 k := fun h => e (by cases h; rfl)
      refine ⟨by rw [has_put_other hne]; simp [updU, e, (h3 x hx).1], ?_⟩
      rw [atKey_put_other hne, (h3 x hx).2]
      simp [updU, e]
/-- 'm[k]'. -/
theorem MapU.look {W : World} {M : Nat} {f : Int → Option Int} {s : Nat} (h : MapU W M f s) {k : Int} (hk : U32 k) :
    (Instr.lookup 115 (.map (some M)) (.int .u32 k) false).run Tryz.prog W = .ok (.int .u32 ((f k).getD 0)) W := by
  obtain ⟨D, h1, h2, h3⟩ := h
  obtain ⟨v, ps, hr, hv⟩ := h1.lookup tu_law Tryz.underlying115 (tu_zero W) (plainElem_int Tryz.underlying34 (by decide)) hk.key
  obtain ⟨c, rfl, he, _⟩ := plainElem_int_inv Tryz.underlying34 hv
  rw [(h3 k hk).2] at he
  simp at he
  rw [hr, he.1]
end Go.Proofs.YtakaadcpaeiccabGreat

namespace Go.Proofs.YtakaadcpaeiccabGreat
open Go.RowKit

set_option maxHeartbeats 400000 in
theorem numbers_1 (B : Nat) (w : World) (hc : w.cell? ⟨B, 1, none⟩ = some (.int .i64 1)) :
    Calls Tryz.prog 86 #[.pointer (some ⟨B, 0, none⟩)] w fun e w' => e = .returned (.slice (some ⟨w.heap.size, 0, none⟩) 5 5) ∧
      w' = (w.alloc (.cells #[.pointer (some ⟨B, 4, none⟩), .pointer (some ⟨B, 5, none⟩), .pointer (some ⟨B, 6, none⟩), .pointer (some ⟨B, 7, none⟩), .pointer (some ⟨B, 8, none⟩)] 189)).drew := by
  go_enter Tryz.func86, Tryz.ntmps86
  go_wp2
  go_region_held3 (fun _ => True) (trivial) (fail)
  go_wp2
  all_goals (go_ret; exact ⟨rfl, rfl⟩)

set_option maxHeartbeats 400000 in
theorem numbers_2 (B : Nat) (w : World) (hc : w.cell? ⟨B, 1, none⟩ = some (.int .i64 2)) :
    Calls Tryz.prog 86 #[.pointer (some ⟨B, 0, none⟩)] w fun e w' => e = .returned (.slice (some ⟨w.heap.size, 0, none⟩) 4 4) ∧
      w' = (w.alloc (.cells #[.pointer (some ⟨B, 5, none⟩), .pointer (some ⟨B, 6, none⟩), .pointer (some ⟨B, 7, none⟩), .pointer (some ⟨B, 9, none⟩)] 189)).drew := by
  go_enter Tryz.func86, Tryz.ntmps86
  go_wp2
  go_region_held3 (fun _ => True) (trivial) (fail)
  go_wp2
  all_goals (go_ret; exact ⟨rfl, rfl⟩)

set_option maxHeartbeats 400000 in
theorem numbers_9 (B : Nat) (w : World) (hc : w.cell? ⟨B, 1, none⟩ = some (.int .i64 9)) :
    Calls Tryz.prog 86 #[.pointer (some ⟨B, 0, none⟩)] w fun e w' => e = .returned (.slice (some ⟨w.heap.size, 0, none⟩) 3 3) ∧
      w' = (w.alloc (.cells #[.pointer (some ⟨B, 4, none⟩), .pointer (some ⟨B, 5, none⟩), .pointer (some ⟨B, 7, none⟩)] 189)).drew := by
  go_enter Tryz.func86, Tryz.ntmps86
  go_wp2
  go_region_held3 (fun _ => True) (trivial) (fail)
  go_wp2
  all_goals (go_ret; exact ⟨rfl, rfl⟩)

set_option maxHeartbeats 400000 in
theorem numbers_0 (B : Nat) (k : Int) (h1 : (k == 1) = false) (h2 : (k == 2) = false) (h9 : (k == 9) = false) (w : World) (hc : w.cell? ⟨B, 1, none⟩ = some (.int .i64 k)) :
    Calls Tryz.prog 86 #[.pointer (some ⟨B, 0, none⟩)] w fun e w' => e = .returned (.slice none 0 0) ∧ w' = w := by
  go_enter Tryz.func86, Tryz.ntmps86
  go_wp2
  all_goals (go_ret; exact ⟨rfl, rfl⟩)

/-- A packet without what its kind has. -/
def Pkt.forP (p : Pkt) : Pkt :=
  if p.kind = 1 then { p with hops := 0, unk := false, id := 0, dest := 0, dseq := 0, frm := 0, fseq := 0 }
  else if p.kind = 2 then { p with hops := 0, dest := 0, dseq := 0, frm := 0, life := 0 }
  else if p.kind = 3 then { p with la := none, ln := 0, lc := 0 }
  else if p.kind = 9 then { p with id := 0, dest := 0, frm := 0, pay := ⟨#[]⟩ }
  else p

set_option maxHeartbeats 1000000 in
theorem foreign_1 (p : Pkt) (hk : p.kind = 1) (w : World) :
    Calls Tryz.prog 128 #[p.val] w fun e w' => e = .returned p.forP.val ∧ Below w.heap.size w w' := by
  obtain ⟨ttl, kind, hops, unk, id, dest, dseq, frm, fseq, life, la, ln, lc, pay⟩ := p
  simp only at hk
  subst hk
  go_enter Tryz.func128, Tryz.ntmps128
  go_wp2_with (go_at_call 86; refine (numbers_1 _ _ ?_).mono ?_; (simp [go_sem]); rintro e w' ⟨rfl, rfl⟩)
  go_rounds 6
  all_goals (go_returns; refine ⟨rfl, ?_⟩; go_grown)

set_option maxHeartbeats 1000000 in
theorem foreign_2 (p : Pkt) (hk : p.kind = 2) (w : World) :
    Calls Tryz.prog 128 #[p.val] w fun e w' => e = .returned p.forP.val ∧ Below w.heap.size w w' := by
  obtain ⟨ttl, kind, hops, unk, id, dest, dseq, frm, fseq, life, la, ln, lc, pay⟩ := p
  simp only at hk
  subst hk
  go_enter Tryz.func128, Tryz.ntmps128
  go_wp2_with (go_at_call 86; refine (numbers_2 _ _ ?_).mono ?_; (simp [go_sem]); rintro e w' ⟨rfl, rfl⟩)
  go_rounds 5
  all_goals (go_returns; refine ⟨rfl, ?_⟩; go_grown)

set_option maxHeartbeats 1000000 in
theorem foreign_3 (p : Pkt) (hk : p.kind = 3) (w : World) :
    Calls Tryz.prog 128 #[p.val] w fun e w' => e = .returned p.forP.val ∧ Below w.heap.size w w' := by
  obtain ⟨ttl, kind, hops, unk, id, dest, dseq, frm, fseq, life, la, ln, lc, pay⟩ := p
  simp only at hk
  subst hk
  go_enter Tryz.func128, Tryz.ntmps128
  go_wp2_with (go_at_call 86; refine (numbers_0 _ 3 rfl rfl rfl _ ?_).mono ?_; (simp [go_sem]); rintro e w' ⟨rfl, rfl⟩)
  go_rounds 1
  all_goals (go_returns; refine ⟨rfl, ?_⟩; go_grown)

set_option maxHeartbeats 1000000 in
theorem foreign_9 (p : Pkt) (hk : p.kind = 9) (w : World) :
    Calls Tryz.prog 128 #[p.val] w fun e w' => e = .returned p.forP.val ∧ Below w.heap.size w w' := by
  obtain ⟨ttl, kind, hops, unk, id, dest, dseq, frm, fseq, life, la, ln, lc, pay⟩ := p
  simp only at hk
  subst hk
  go_enter Tryz.func128, Tryz.ntmps128
  go_wp2_with (go_at_call 86; refine (numbers_9 _ _ ?_).mono ?_; (simp [go_sem]); rintro e w' ⟨rfl, rfl⟩)
  go_rounds 4
  all_goals (go_returns; refine ⟨rfl, ?_⟩; go_grown)

set_option maxHeartbeats 1000000 in
theorem foreign_0 (p : Pkt) (h1 : (p.kind == 1) = false) (h2 : (p.kind == 2) = false) (h3 : (p.kind == 3) = false) (h9 : (p.kind == 9) = false) (w : World) :
    Calls Tryz.prog 128 #[p.val] w fun e w' => e = .returned p.forP.val ∧ Below w.heap.size w w' := by
  have hf : p.forP = p := by
    unfold Pkt.forP
    simp only [beq_eq_false_iff_ne, ne_eq] at h1 h2 h3 h9
    simp [h1, h2, h3, h9]
  rw [hf]
  clear hf
  go_enter Tryz.func128, Tryz.ntmps128
  go_wp2_with (go_at_call 86; refine (numbers_0 _ p.kind h1 h2 h9 _ ?_).mono ?_; (simp [go_sem]); rintro e w' ⟨rfl, rfl⟩)
  go_rounds 1
  all_goals (go_returns; refine ⟨rfl, ?_⟩; go_grown)

theorem foreign_any (p : Pkt) (w : World) :
    Calls Tryz.prog 128 #[p.val] w fun e w' => e = .returned p.forP.val ∧ Below w.heap.size w w' := by
  by_cases h1 : p.kind = 1
  · exact foreign_1 p h1 w
  by_cases h2 : p.kind = 2
  · exact foreign_2 p h2 w
  by_cases h3 : p.kind = 3
  · exact foreign_3 p h3 w
  by_cases h9 : p.kind = 9
  · exact foreign_9 p h9 w
  exact foreign_0 p (by simpa using h1) (by simpa using h2) (by simpa using h3) (by simpa using h9) w
end Go.Proofs.YtakaadcpaeiccabGreat
