import Derived.Test.YtakaadcpaeiccabGreatC03
import Derived.Test.YtakaadcpaeiccabGreatC05
import Derived.Maps.OwnSet
import Derived.Deep.QuietTactic
import Derived.BigQuiet
import Derived.Shelf.SlIter.Collect
import Derived.Maps.AppendAt
import Derived.WalkSpells
import Derived.RangeFuncBound
import Derived.Sort.MapsRangeIn
import Derived.Sort.KeysCollected
import Derived.WalkKit
import Derived.OwnWalkIn
import Derived.TacticsInMore
import Derived.RegionIn
import Derived.LoopNIn
import Derived.LoopIn
import Derived.RangeFuncLeaves
namespace Go.Proofs.YtakaadcpaeiccabGreat

/-- What counts of a list of records: the greatest number of each address; the greatest one of one's own. -/
def stepM (f : Int → Option Int) (r : Bool × Int × Int) : Int → Option Int := if r.1 then f else updU f r.2.1 (some (max ((f r.2.1).getD 0) r.2.2))
def stepO (c : Option Int) (r : Bool × Int × Int) : Option Int := if r.1 then some (max (c.getD 0) r.2.2) else c
def mpL (L : List (Bool × Int × Int)) : Int → Option Int := L.foldl stepM fun _ => none
def owL (L : List (Bool × Int × Int)) : Option Int := L.foldl stepO none
theorem mpL_snoc (L : List (Bool × Int × Int)) (r : Bool × Int × Int) : mpL (L ++ [r]) = stepM (mpL L) r := by simp [mpL]
theorem owL_snoc (L : List (Bool × Int × Int)) (r : Bool × Int × Int) : owL (L ++ [r]) = stepO (owL L) r := by simp [owL]
def ownP : Option Int → List (Bool × Int × Int)
  | none => []
  | some s => [(true, 0, s)]
def othP (f : Int → Option Int) (ss : List Int) : List (Bool × Int × Int) := ss.map fun a => (false, a, (f a).getD 0)
/-- The compact list of what counts. -/
def IsCmp (f : Int → Option Int) (c : Option Int) (out : List (Bool × Int × Int)) : Prop :=
  ∃ ss : List Int, ss.Pairwise (· < ·) ∧ (∀ a, a ∈ ss ↔ (f a).isSome = true) ∧ out = ownP c ++ othP f ss

theorem lt_unique {l l' : List Int} (h : l.Pairwise (· < ·)) (h' : l'.Pairwise (· < ·)) (hm : ∀ a, a ∈ l ↔ a ∈ l') : l = l' := by
  have n1 : l.Nodup := h.imp (fun hab => by omega)
  have n2 : l'.Nodup := h'.imp (fun hab => by omega)
  have hp := (List.perm_ext_iff_of_nodup n1 n2).2 hm
  refine List.Perm.eq_of_pairwise (le := fun a b => a < b) (fun a b _ _ h1 h2 => by omega) h h' hp
theorem IsCmp.unique {f : Int → Option Int} {c : Option Int} {o1 o2 : List (Bool × Int × Int)} (h1 : IsCmp f c o1) (h2 : IsCmp f c o2) : o1 = o2 := by
  obtain ⟨s1, p1, m1, rfl⟩ := h1
  obtain ⟨s2, p2, m2, rfl⟩ := h2
  rw [lt_unique p1 p2 (fun a => by rw [m1, m2])]

/-- A record put among those that count. -/
def putL : List (Bool × Int × Int) → Bool × Int × Int → List (Bool × Int × Int)
  | [], r => [r]
  | x :: l, r => if x.1 = r.1 ∧ x.2.1 = r.2.1 then (x.1, x.2.1, max r.2.2 x.2.2) :: l
    else if r.1 = true ∨ (x.1 = false ∧ x.2.1 > r.2.1) then r :: x :: l
    else x :: putL l r
def insU (a : Int) : List Int → List Int
  | [] => [a]
  | x :: l => if x = a then x :: l else if x > a then a :: x :: l else x :: insU a l
theorem mem_insU (a : Int) (l : List Int) (b : Int) : b ∈ insU a l ↔ b = a ∨ b ∈ l := by
  induction l with
  | nil => simp [insU]
  | cons x l ih =>
    unfold insU
    split
    · rename_i h; subst h; simp
    · split
      · simp
      · simp [ih]; constructor <;> rintro (h | h | h) <;> simp [h]
theorem insU_lt (a : Int) (l : List Int) (h : l.Pairwise (· < ·)) : (insU a l).Pairwise (· < ·) := by
  induction l with
  | nil => simp [insU]
  | cons x l ih =>
    unfold insU
    have hx := List.pairwise_cons.1 h
    split
    · exact h
    · split
      · refine List.pairwise_cons.2 ⟨fun b hb => ?_, h⟩
        rcases List.mem_cons.1 hb with rfl | hb
        · omega
        · have := hx.1 b hb; omega
      · refine List.pairwise_cons.2 ⟨fun b hb => ?_, ih hx.2⟩
        rcases (mem_insU a l b).1 hb with rfl | hb
        · omega
        · exact hx.1 b hb
theorem putL_oth (f : Int → Option Int) (a s : Int) (ss : List Int) (h : ss.Pairwise (· < ·)) (hm : ∀ b ∈ ss, (f b).isSome = true) (hf : a ∉ ss → (f a).getD 0 ≤ s) :
    putL (othP f ss) (false, a, s) = othP (updU f a (some (max ((f a).getD 0) s))) (insU a ss) := by
  induction ss with
  | nil =>
    have := hf (by simp)
    simp [othP, putL, insU, updU]
    omega
  | cons x l ih =>
    have hx := List.pairwise_cons.1 h
    have hother : ∀ m : List Int, (∀ b ∈ m, b ≠ a) → othP (updU f a (some (max ((f a).getD 0) s))) m = othP f m := by
      intro m hmm
      unfold othP
      refine List.map_congr_left fun b hb => ?_
      simp [updU, hmm b hb]
    simp only [othP, List.map_cons, putL, insU]
    by_cases e : x = a
    · subst e
      simp only [and_self, if_true]
      rw [List.map_cons]
      have := hother l (fun b hb => by have := hx.1 b hb; omega)
      simp only [othP] at this
      rw [this]
      simp [updU]
      omega
    · simp only [e, and_false, if_false, Bool.false_eq_true, false_or, true_and]
      by_cases g : x > a
      · simp only [g, if_true]
        have hn : a ∉ x :: l := by
          intro hb
          rcases List.mem_cons.1 hb with hb | hb
          · omega
          · have := hx.1 a hb; omega
        have h1 := hother (x :: l) (fun b hb => by rintro rfl; exact hn hb)
        simp only [othP] at h1
        rw [List.map_cons, h1]
        have := hf hn
        simp [updU]
        omega
      · simp only [g, if_false]
        have h1 := hother [x] (by simp; exact e)
        simp only [othP, List.map_cons, List.map_nil, List.cons.injEq, and_true] at h1
        have := ih hx.2 (fun b hb => hm b (by simp [hb])) (fun hn => hf (by simp; exact ⟨fun e' => e e'.symm, hn⟩))
        simp only [othP] at this
        rw [List.map_cons, h1, this]
theorem IsCmp.put {f : Int → Option Int} {c : Option Int} {out : List (Bool × Int × Int)} (h : IsCmp f c out) (r : Bool × Int × Int) (hs : 0 ≤ r.2.2) : IsCmp (stepM f r) (stepO c r) (putL out (norm r)) := by
  obtain ⟨ss, hp, hm, rfl⟩ := h
  obtain ⟨o, a, s⟩ := r
  cases o
  · refine ⟨insU a ss, insU_lt a ss hp, fun b => ?_, ?_⟩
    · rw [mem_insU, hm]
      by_cases e : b = a
      · simp [stepM, updU, e]
      · simp [stepM, updU, e]
    · have hq := putL_oth f a s ss hp (fun b hb => (hm b).1 hb) (fun hn => by
        have : f a = none := by
          cases hfa : f a with
          | none => rfl
          | some v => exact absurd ((hm a).2 (by simp [hfa])) hn
        simp [this]; exact hs)
      cases c with
      | none => simpa [ownP, stepO, stepM, norm] using hq
      | some t =>
        simp only [ownP, stepO, stepM, norm, List.cons_append, List.nil_append, putL, Bool.false_eq_true, if_false]
        simp only [Bool.true_eq_false, false_and, if_false, or_self]
        rw [hq]
  · refine ⟨ss, hp, fun b => by simpa [stepM] using hm b, ?_⟩
    simp only [stepM, stepO, if_true, norm]
    cases c with
    | none =>
      simp only [ownP, List.nil_append, Option.getD_none]
      rw [Int.max_eq_right hs]
      cases ss <;> simp [othP, putL]
    | some t => simp [ownP, putL, Int.max_comm]
theorem IsCmp.nil : IsCmp (fun _ => none) none [] := ⟨[], List.Pairwise.nil, fun a => by simp, rfl⟩
/-- Addresses and numbers of what counts are in their bounds. -/
def MB (f : Int → Option Int) : Prop := ∀ a v, f a = some v → U32 a ∧ U32 v
def OB (c : Option Int) : Prop := ∀ v, c = some v → U32 v
theorem u32_max {a b : Int} (h : U32 a) (h' : U32 b) : U32 (max a b) := by
  unfold U32 at *; omega
theorem MB.getD {f : Int → Option Int} (h : MB f) (a : Int) : U32 ((f a).getD 0) := by
  cases e : f a with
  | none => simp [U32]
  | some v => exact (h a v e).2
theorem OB.getD {c : Option Int} (h : OB c) : U32 (c.getD 0) := by
  cases e : c with
  | none => simp [U32]
  | some v => exact h v e
theorem MB.step {f : Int → Option Int} (h : MB f) {r : Bool × Int × Int} (ha : U32 r.2.1) (hs : U32 r.2.2) : MB (stepM f r) := by
  obtain ⟨o, a, s⟩ := r
  cases o
  · intro b v hb
    simp only [stepM, Bool.false_eq_true, if_false, updU] at hb
    by_cases e : b = a
    · simp only [e, if_true, Option.some.injEq] at hb
      subst hb
      exact ⟨e ▸ ha, u32_max (h.getD a) hs⟩
    · simp only [e, if_false] at hb
      exact h b v hb
  · exact h
theorem OB.step {c : Option Int} (h : OB c) {r : Bool × Int × Int} (hs : U32 r.2.2) : OB (stepO c r) := by
  obtain ⟨o, a, s⟩ := r
  cases o
  · exact h
  · intro v hv
    simp only [stepO, if_true, Option.some.injEq] at hv
    subst hv
    exact u32_max h.getD hs
end Go.Proofs.YtakaadcpaeiccabGreat

namespace Go.Proofs.YtakaadcpaeiccabGreat

/-- A number that a uint64 holds. -/
def U64 (k : Int) : Prop := 0 ≤ k ∧ k ≤ 18446744073709551615
/-- A line of a table. -/
structure Rt where
  dest : Int
  seq : Int
  hops : Int
  next : Int
  valid : Bool
  exp : Int
  bef : List Int
structure Rt.Ok (x : Rt) : Prop where
  dest : U32 x.dest
  seq : U32 x.seq
  hops : I64 x.hops
  next : U32 x.next
  exp : U64 x.exp
  befs : x.bef.length ≤ 4
  bef : ∀ b ∈ x.bef, U32 b
  asc : x.bef.Pairwise (· < ·)
/-- A number that grows. -/
def gr (s : Int) : Int := max s ((s + 1) % 4294967296)
theorem gr_u32 {s : Int} (h : U32 s) : U32 (gr s) := by unfold U32 gr at *; omega
/-- The first number of the rank. -/
def rk (x : Rt) : Int := if x.valid then x.seq else x.seq - 1
def grt (x y : Rt) : Bool := if rk x = rk y then decide (x.hops < y.hops) else decide (rk x > rk y)
theorem grt_not (x y : Rt) : (!grt x y) = (decide (rk x < rk y) || (decide (rk x = rk y) && decide (x.hops ≥ y.hops))) := by
  unfold grt
  by_cases h : rk x = rk y
  · simp only [h, if_true, decide_true, Bool.true_and]
    by_cases h2 : x.hops < y.hops
    · simp [h2]
    · simp [h2]
      omega
  · simp only [h, if_false, decide_false, Bool.false_and, Bool.or_false]
    by_cases h2 : rk x > rk y
    · simp [h2]
      omega
    · simp [h2]
      omega
/-- A line that ends. -/
def endR (x : Rt) (s : Int) : Rt := { x with seq := max (gr x.seq) s, valid := false, exp := 0, bef := [] }
theorem endR_ok {x : Rt} (h : x.Ok) {s : Int} (hs : U32 s) : (endR x s).Ok :=
  ⟨h.dest, u32_max (gr_u32 h.seq) hs, h.hops, h.next, by simp [endR, U64], by simp [endR], by simp [endR], by simp [endR]⟩

/-- A table: its lines by rising destinations. -/
def Asc (A : List Rt) : Prop := A.Pairwise fun x y => x.dest < y.dest
def pos : List Rt → Int → Nat
  | [], _ => 0
  | x :: A, d => if x.dest < d then pos A d + 1 else 0
def lineOf (A : List Rt) (d : Int) : Option Rt := A.find? fun x => x.dest == d
def modL (A : List Rt) (d : Int) (f : Rt → Rt) : List Rt := A.map fun x => if x.dest = d then f x else x
def insL (A : List Rt) (x : Rt) : List Rt := A.take (pos A x.dest) ++ x :: A.drop (pos A x.dest)

theorem pos_le (A : List Rt) (d : Int) : pos A d ≤ A.length := by
  induction A with
  | nil => simp [pos]
  | cons x A ih => unfold pos; split <;> simp <;> omega
theorem pos_lt (A : List Rt) (d : Int) : ∀ j, j < pos A d → ∃ x, A[j]? = some x ∧ x.dest < d := by
  induction A with
  | nil => intro j hj; simp [pos] at hj
  | cons x A ih =>
    intro j hj
    unfold pos at hj
    split at hj
    · rename_i h
      cases j with
      | zero => exact ⟨x, rfl, h⟩
      | succ j => simpa using ih j (by omega)
    · omega
theorem pos_ge {A : List Rt} {d : Int} {x : Rt} (h : A[pos A d]? = some x) : d ≤ x.dest := by
  induction A with
  | nil => simp at h
  | cons y A ih =>
    unfold pos at h
    split at h
    · rename_i hy
      exact ih (by simpa using h)
    · rename_i hy
      simp at h
      subst h
      omega
theorem Asc.get {A : List Rt} (h : Asc A) {i j : Nat} {x y : Rt} (hi : A[i]? = some x) (hj : A[j]? = some y) (hij : i < j) : x.dest < y.dest := by
  obtain ⟨h1, rfl⟩ := List.getElem?_eq_some_iff.1 hi
  obtain ⟨h2, rfl⟩ := List.getElem?_eq_some_iff.1 hj
  exact List.pairwise_iff_getElem.1 h i j h1 h2 hij
theorem Asc.inj {A : List Rt} (h : Asc A) {x y : Rt} (hx : x ∈ A) (hy : y ∈ A) (he : x.dest = y.dest) : x = y := by
  obtain ⟨i, hi⟩ := List.getElem?_of_mem hx
  obtain ⟨j, hj⟩ := List.getElem?_of_mem hy
  rcases Nat.lt_trichotomy i j with hij | hij | hij
  · have := h.get hi hj hij; omega
  · subst hij
    rw [hi] at hj
    cases hj
    rfl
  · have := h.get hj hi hij; omega
theorem lineOf_some {A : List Rt} {d : Int} {x : Rt} (h : lineOf A d = some x) : x ∈ A ∧ x.dest = d := by
  unfold lineOf at h
  exact ⟨List.mem_of_find?_eq_some h, by simpa using List.find?_some h⟩
theorem lineOf_mem {A : List Rt} (h : Asc A) {x : Rt} (hx : x ∈ A) : lineOf A x.dest = some x := by
  cases e : lineOf A x.dest with
  | none =>
    unfold lineOf at e
    rw [List.find?_eq_none] at e
    exact absurd (by simp) (e x hx)
  | some y =>
    have := lineOf_some e
    rw [h.inj this.1 hx this.2]
theorem lineOf_none {A : List Rt} {d : Int} : lineOf A d = none ↔ ∀ x ∈ A, x.dest ≠ d := by
  unfold lineOf
  rw [List.find?_eq_none]
  simp
theorem modL_length (A : List Rt) (d : Int) (f : Rt → Rt) : (modL A d f).length = A.length := by simp [modL]
theorem modL_none {A : List Rt} {d : Int} (h : lineOf A d = none) (f : Rt → Rt) : modL A d f = A := by
  rw [lineOf_none] at h
  unfold modL
  conv => rhs; rw [← List.map_id A]
  exact List.map_congr_left fun x hx => by simp [h x hx]
/-- One line changed, by its place. -/
theorem modL_set {A : List Rt} (h : Asc A) {d : Int} {i : Nat} {x : Rt} (hi : A[i]? = some x) (hd : x.dest = d) (f : Rt → Rt) : modL A d f = A.set i (f x) := by
  apply List.ext_getElem?
  intro j
  unfold modL
  rw [List.getElem?_map, List.getElem?_set]
  by_cases hij : i = j
  · subst hij
    obtain ⟨hl, rfl⟩ := List.getElem?_eq_some_iff.1 hi
    rw [if_pos rfl, if_pos hl, List.getElem?_eq_getElem hl, Option.map_some, if_pos hd]
  · simp only [hij, if_false]
    cases e : A[j]? with
    | none => rfl
    | some y =>
      simp only [Option.map_some]
      rw [if_neg]
      intro hyd
      rcases Nat.lt_or_gt_of_ne hij with hlt | hlt
      · have := h.get hi e hlt; omega
      · have := h.get e hi hlt; omega
theorem modL_asc {A : List Rt} (h : Asc A) (d : Int) (f : Rt → Rt) (hf : ∀ x, (f x).dest = x.dest) : Asc (modL A d f) := by
  unfold Asc modL
  rw [List.pairwise_map]
  have hd : ∀ x : Rt, (if x.dest = d then f x else x).dest = x.dest := by
    intro x
    split
    · exact hf x
    · rfl
  refine h.imp fun {x y} hxy => ?_
  rw [hd, hd]
  exact hxy
theorem modL_mem {A : List Rt} {d : Int} {f : Rt → Rt} {y : Rt} (hy : y ∈ modL A d f) : (∃ x ∈ A, x.dest = d ∧ y = f x) ∨ (y ∈ A ∧ y.dest ≠ d) := by
  unfold modL at hy
  obtain ⟨x, hx, rfl⟩ := List.mem_map.1 hy
  by_cases e : x.dest = d
  · exact .inl ⟨x, hx, e, by simp [e]⟩
  · refine .inr ?_
    simp only [e, if_false]
    exact ⟨hx, e⟩
theorem insL_length (A : List Rt) (x : Rt) : (insL A x).length = A.length + 1 := by
  have := pos_le A x.dest
  simp [insL]
  omega
theorem insL_mem {A : List Rt} {x y : Rt} : y ∈ insL A x ↔ y = x ∨ y ∈ A := by
  unfold insL
  rw [List.mem_append, List.mem_cons]
  constructor
  · rintro (h | h | h)
    · exact .inr (List.mem_of_mem_take h)
    · exact .inl h
    · exact .inr (List.mem_of_mem_drop h)
  · rintro (h | h)
    · exact .inr (.inl h)
    · rw [← List.take_append_drop (pos A x.dest) A] at h
      rcases List.mem_append.1 h with h | h
      · exact .inl h
      · exact .inr (.inr h)
theorem insL_asc {A : List Rt} (h : Asc A) {x : Rt} (hx : lineOf A x.dest = none) : Asc (insL A x) := by
  have hn := lineOf_none.1 hx
  unfold Asc insL
  rw [List.pairwise_append]
  refine ⟨h.sublist (List.take_sublist _ _), ?_, ?_⟩
  · rw [List.pairwise_cons]
    refine ⟨fun y hy => ?_, h.sublist (List.drop_sublist _ _)⟩
    obtain ⟨j, hj⟩ := List.getElem?_of_mem hy
    rw [List.getElem?_drop] at hj
    have hne := hn y (List.mem_of_getElem? hj)
    rcases Nat.eq_zero_or_pos j with e | e
    · subst e
      have := pos_ge hj
      omega
    · cases e0 : A[pos A x.dest]? with
      | none =>
        have := List.getElem?_eq_none_iff.1 e0
        have := (List.getElem?_eq_some_iff.1 hj).1
        omega
      | some z =>
        have h1 := pos_ge e0
        have h2 := h.get e0 hj (by omega)
        omega
  · intro y hy z hz
    obtain ⟨j, hj⟩ := List.getElem?_of_mem hy
    rw [List.getElem?_take] at hj
    split at hj
    · rename_i hjp
      obtain ⟨w, hw, hl⟩ := pos_lt A x.dest j hjp
      rw [hj] at hw
      cases hw
      rcases List.mem_cons.1 hz with rfl | hz
      · exact hl
      · obtain ⟨i, hi⟩ := List.getElem?_of_mem hz
        rw [List.getElem?_drop] at hi
        exact h.get hj hi (by omega)
    · cases hj
end Go.Proofs.YtakaadcpaeiccabGreat

namespace Go.Proofs.YtakaadcpaeiccabGreat
open Go.RowKit Go.Maps

/-- How a pointer among a map's elements reads: by its block. -/
def ptrR (v : Value) : Option (DataW Unit × List MemPlace) :=
  match v with
  | .pointer none => some (.lit (.int .i64 (-1)), [])
  | .pointer (some ⟨b, 0, none⟩) => some (.lit (.int .i64 b), [])
  | _ => none
def ptrOf : Option Nat → Value
  | none => .pointer none
  | some b => .pointer (some ⟨b, 0, none⟩)
def litOf : Option Nat → Int
  | none => -1
  | some b => b
theorem ptrR_of (o : Option Nat) : ptrR (ptrOf o) = some (.lit (.int .i64 (litOf o)), []) := by cases o <;> rfl
theorem ptrR_inv {v : Value} {o : Option Nat} {ps : List MemPlace} (h : ptrR v = some (.lit (.int .i64 (litOf o)), ps)) : v = ptrOf o := by
  unfold ptrR at h
  split at h
  · simp only [Option.some.injEq, Prod.mk.injEq, DataW.lit.injEq, Lit.int.injEq, true_and] at h
    cases o with
    | none => rfl
    | some b =>
      have := h.1
      simp only [litOf] at this
      omega
  · rename_i b
    simp only [Option.some.injEq, Prod.mk.injEq, DataW.lit.injEq, Lit.int.injEq, true_and] at h
    cases o with
    | none =>
      have := h.1
      simp only [litOf] at this
      omega
    | some c =>
      have := h.1
      simp only [litOf] at this
      obtain rfl : b = c := by omega
      rfl
  · cases h
theorem tp_zero (w : World) : (zeroValue 161).run Tryz.prog w = .ok (.pointer none) w := by kernel_rfl
def updP (f : Int → Option Nat) (k : Int) (v : Option Nat) : Int → Option Nat := fun x => if x = k then v else f x

/-- A map from addresses to blocks. -/
def MapP (W : World) (M : Nat) (f : Int → Option Nat) (s : Nat) : Prop :=
  ∃ D : DataW Unit, W.ownsMap Tryz.prog 34 ptrR M s D ∧ Maps.size D = s ∧
    ∀ k, U32 k → Maps.has D (.int .u32 k) = (f k).isSome ∧ D.atKey (.int .u32 k) (.lit (.int .i64 (-1))) = .lit (.int .i64 (litOf (f k)))
theorem MapP.block {W W' : World} {M : Nat} {f : Int → Option Nat} {s : Nat} (h : MapP W M f s) (he : W'.heap[M]? = W.heap[M]?) : MapP W' M f s := by
  obtain ⟨D, ⟨es, clock, hb, Ft, hs, hD⟩, h2, h3⟩ := h
  exact ⟨D, ⟨es, clock, he.trans hb, Ft, hs, hD⟩, h2, h3⟩
theorem MapP.lt {W : World} {M : Nat} {f : Int → Option Nat} {s : Nat} (h : MapP W M f s) : M < W.heap.size := by
  obtain ⟨D, h1, _⟩ := h
  exact h1.lt
theorem MapP.made (w : World) : MapP (w.alloc (.map #[] 0)) w.heap.size (fun _ => none) 0 :=
  ⟨.map [], World.ownsMap_made w _ _ _, rfl, fun _ _ => ⟨rfl, rfl⟩⟩
theorem MapP.put {W : World} {M : Nat} {f : Int → Option Nat} {s : Nat} (h : MapP W M f s) (hs : s < maxLen) {k : Int} (hk : U32 k) (B : Nat) :
    ∃ W', (Instr.mapUpdate 156 (.map (some M)) (.int .u32 k) (.pointer (some ⟨B, 0, none⟩))).run Tryz.prog W = .ok () W' ∧ MapP W' M (updP f k (some B)) (if (f k).isSome then s else s + 1) ∧ W.grownBy W' (some M) := by
  obtain ⟨D, h1, h2, h3⟩ := h
  obtain ⟨W', hr, ho, ht⟩ := h1.store tu_law Tryz.underlying156 hs hk.key (ptrR_of (some B))
  have hm := h1.isMap
  have htd := h1.tidy tu_law
  have hkl : WideAt.IsKeyLit (.int .u32 k) := by trivial
  have hsz : Maps.size (D.put (.int .u32 k) (.lit (.int .i64 (litOf (some B))))) = if (f k).isSome then s else s + 1 := by
    rw [size_put htd, (h3 k hk).1, h2]
  refine ⟨W', hr, ⟨_, ?_, hsz, fun x hx => ?_⟩, ht.grown⟩
  · have := ownsMap_tight ho
    rw [hsz] at this
    exact this
  · by_cases e : x = k
    · subst e
      refine ⟨by rw [has_put_same hm hkl]; simp [updP], ?_⟩
      rw [atKey_put_same hm hkl]
      simp [updP]
    · have hne : (Lit.int .u32 x) ≠ .int .u32 k := fun h => e (by cases h; rfl)
      refine ⟨by rw [has_put_other hne]; simp [updP, e, (h3 x hx).1], ?_⟩
      rw [atKey_put_other hne, (h3 x hx).2]
      simp [updP, e]
theorem MapP.look {W : World} {M : Nat} {f : Int → Option Nat} {s : Nat} (h : MapP W M f s) {k : Int} (hk : U32 k) :
    (Instr.lookup 156 (.map (some M)) (.int .u32 k) false).run Tryz.prog W = .ok (ptrOf (f k)) W := by
  obtain ⟨D, h1, h2, h3⟩ := h
  obtain ⟨v, ps, hr, hv⟩ := h1.lookup tu_law Tryz.underlying156 (tp_zero W) (ptrR_of none) hk.key
  have h4 := (h3 k hk).2
  simp only [litOf] at hv h4
  rw [h4] at hv
  rw [hr, ptrR_inv (o := f k) hv]
theorem MapP.look_ok {W : World} {M : Nat} {f : Int → Option Nat} {s : Nat} (h : MapP W M f s) {k : Int} (hk : U32 k) :
    (Instr.lookup 156 (.map (some M)) (.int .u32 k) true).run Tryz.prog W = .ok (.tuple #[ptrOf (f k), .bool (f k).isSome]) W := by
  obtain ⟨D, h1, h2, h3⟩ := h
  obtain ⟨v, ps, hr, hv⟩ := h1.look_ok tu_law Tryz.underlying156 (tp_zero W) (ptrR_of none) hk.key
  have h4 := (h3 k hk).2
  simp only [litOf] at hv h4
  rw [h4] at hv
  rw [hr, ptrR_inv (o := f k) hv, (h3 k hk).1]
theorem MapP.len {W : World} {M : Nat} {f : Int → Option Nat} {s : Nat} (h : MapP W M f s) (ty : TypeId) :
    (Builtin.len_ #[156] ty #[.map (some M)]).run Tryz.prog W = .ok (.int .i64 s) W := by
  obtain ⟨D, h1, h2, h3⟩ := h
  rw [h1.len Tryz.underlying156 ty, h2]
end Go.Proofs.YtakaadcpaeiccabGreat

namespace Go.Proofs.YtakaadcpaeiccabGreat
open Go.RowKit

theorem RC_oneCell (L : List (Bool × Int × Int)) : ∀ u ∈ RC L, u.oneCell' = true := by
  intro u hu
  simp only [RC, List.mem_flatMap, List.mem_cons, List.not_mem_nil, or_false] at hu
  obtain ⟨x, _, rfl | rfl | rfl⟩ := hu <;> rfl
end Go.Proofs.YtakaadcpaeiccabGreat

namespace Go.Proofs.YtakaadcpaeiccabGreat
open Go.RowKit

end Go.Proofs.YtakaadcpaeiccabGreat

namespace Go.Proofs.YtakaadcpaeiccabGreat
open Go.RowKit

theorem RBk.kept {B : Nat} {o : Bool} {a s : Int} {W W' : World} {r : Option Nat} (h : RBk B o a s W) (hg : W.grownBy W' r) (hr : some B ≠ r) : RBk B o a s W' := (hg.block B h.lt hr).trans h
theorem below_grown {A B : World} (h : Below A.heap.size A B) (r : Option Nat) : A.grownBy B r := ⟨h.os, h.tape, h.output, h.size, fun k hk _ => h.block k hk⟩

end Go.Proofs.YtakaadcpaeiccabGreat

namespace Go.Proofs.YtakaadcpaeiccabGreat
open Go.RowKit Go.Maps

/-- A line as a value and as a block; v: its list of neighbours. -/
@[reducible] def rtV (x : Rt) (v : Value) : Value := .agg #[.int .u32 x.dest, .int .u32 x.seq, .int .i64 x.hops, .int .u32 x.next, .bool x.valid, .int .u64 x.exp, v]
@[reducible] def rtBox (x : Rt) (v : Value) : Obj := .cells #[.int .u32 x.dest, .int .u32 x.seq, .int .i64 x.hops, .int .u32 x.next, .bool x.valid, .int .u64 x.exp, v] 38
def LnB (B : Nat) (x : Rt) (v : Value) (W : World) : Prop := W.heap[B]? = some (rtBox x v)
theorem LnB.cell {B : Nat} {x : Rt} {v : Value} {W : World} (h : LnB B x v W) :
    W.cell? ⟨B, 0, none⟩ = some (.int .u32 x.dest) ∧ W.cell? ⟨B, 1, none⟩ = some (.int .u32 x.seq) ∧ W.cell? ⟨B, 2, none⟩ = some (.int .i64 x.hops) ∧ W.cell? ⟨B, 3, none⟩ = some (.int .u32 x.next) ∧ W.cell? ⟨B, 4, none⟩ = some (.bool x.valid) ∧ W.cell? ⟨B, 5, none⟩ = some (.int .u64 x.exp) ∧ W.cell? ⟨B, 6, none⟩ = some v :=
  ⟨cell_of_row W B 0 _ _ _ h, cell_of_row W B 1 _ _ _ h, cell_of_row W B 2 _ _ _ h, cell_of_row W B 3 _ _ _ h, cell_of_row W B 4 _ _ _ h, cell_of_row W B 5 _ _ _ h, cell_of_row W B 6 _ _ _ h⟩
theorem LnB.free {B : Nat} {x : Rt} {v : Value} {W : World} (h : LnB B x v W) (i : Nat) : W.frozen? ⟨B, i, none⟩ = false := by
  unfold LnB at h
  simp [World.frozen?, h]
theorem LnB.lt {B : Nat} {x : Rt} {v : Value} {W : World} (h : LnB B x v W) : B < W.heap.size := (Array.getElem?_eq_some_iff.1 h).1
theorem LnB.block {B : Nat} {x : Rt} {v : Value} {W W' : World} (h : LnB B x v W) (he : W'.heap[B]? = W.heap[B]?) : LnB B x v W' := he.trans h
theorem LnB.later {B : Nat} {x : Rt} {v : Value} {W W' : World} (h : LnB B x v W) (hb : Below W.heap.size W W') : LnB B x v W' := h.block (hb.block B h.lt)
theorem LnB.new (x : Rt) (v : Value) (W : World) : LnB W.heap.size x v (W.alloc (rtBox x v)) := heap_alloc_new W _
theorem LnB.set1 {B : Nat} {x : Rt} {v : Value} {W : World} (h : LnB B x v W) (s : Int) : LnB B { x with seq := s } v (W.setCell ⟨B, 1, none⟩ (.int .u32 s)) := by
  unfold LnB at h ⊢
  simp [World.setCell, Array.getElem?_modify, h]
theorem LnB.set4 {B : Nat} {x : Rt} {v : Value} {W : World} (h : LnB B x v W) (s : Bool) : LnB B { x with valid := s } v (W.setCell ⟨B, 4, none⟩ (.bool s)) := by
  unfold LnB at h ⊢
  simp [World.setCell, Array.getElem?_modify, h]
theorem LnB.set5 {B : Nat} {x : Rt} {v : Value} {W : World} (h : LnB B x v W) (s : Int) : LnB B { x with exp := s } v (W.setCell ⟨B, 5, none⟩ (.int .u64 s)) := by
  unfold LnB at h ⊢
  simp [World.setCell, Array.getElem?_modify, h]
theorem LnB.set6 {B : Nat} {x : Rt} {v : Value} {W : World} (h : LnB B x v W) (u : Value) (l : List Int) : LnB B { x with bef := l } u (W.setCell ⟨B, 6, none⟩ u) := by
  unfold LnB at h ⊢
  simp [World.setCell, Array.getElem?_modify, h]

/-- The struct of a table. -/
def TbB (T : Nat) (self : Int) (M : Nat) (W : World) : Prop := W.heap[T]? = some (.cells #[.int .u32 self, .map (some M)] 158)
theorem TbB.cell {T M : Nat} {self : Int} {W : World} (h : TbB T self M W) : W.cell? ⟨T, 0, none⟩ = some (.int .u32 self) ∧ W.cell? ⟨T, 1, none⟩ = some (.map (some M)) :=
  ⟨cell_of_row W T 0 _ _ _ h, cell_of_row W T 1 _ _ _ h⟩
theorem TbB.lt {T M : Nat} {self : Int} {W : World} (h : TbB T self M W) : T < W.heap.size := (Array.getElem?_eq_some_iff.1 h).1
theorem TbB.block {T M : Nat} {self : Int} {W W' : World} (h : TbB T self M W) (he : W'.heap[T]? = W.heap[T]?) : TbB T self M W' := he.trans h

set_option maxHeartbeats 1000000 in
theorem grown_any (x : Int) (w : World) : Calls Tryz.prog 42 #[.int .u32 x] w fun e w' => e = .returned (.int .u32 (gr x)) ∧ w' = w := by
  have hm : Hid (∀ y : Int, y = gr x → Ending.returned (.int .u32 y) = .returned (.int .u32 (gr x))) := fun y h => by rw [h]
  go_enter Tryz.func42, Tryz.ntmps42
  go_wp2
  all_goals
    go_ret
    refine ⟨hm.out _ ?_, rfl⟩
    unfold gr
    omega
set_option maxRecDepth 100000 in
set_option maxHeartbeats 1000000 in
theorem greater_any (a b c d : Int) (w : World) : Calls Tryz.prog 180 #[.agg #[.int .i64 a, .int .i64 b], .agg #[.int .i64 c, .int .i64 d]] w fun e w' => e = .returned (.bool (if a = c then decide (b < d) else decide (a > c))) ∧ Below w.heap.size w w' := by
  have hb : Below w.heap.size w ((w.alloc (.cells #[.int .i64 a, .int .i64 b] 283)).alloc (.cells #[.int .i64 c, .int .i64 d] 283)) := ((Below.refl _ _).alloc (Nat.le_refl _) _).alloc (by simp) _
  by_cases h : a = c
  · subst h
    rw [if_pos rfl]
    go_enter Tryz.func180, Tryz.ntmps180
    go_wp2
    go_ret
    exact ⟨rfl, hb⟩
  · have hd : (a == c) = false := by simpa using h
    rw [if_neg h]
    go_enter Tryz.func180, Tryz.ntmps180
    go_wp2
    go_ret
    exact ⟨rfl, hb⟩
set_option maxRecDepth 100000 in
set_option maxHeartbeats 1000000 in
theorem rankOf_any (x : Rt) (hx : U32 x.seq) (v : Value) (w : World) : Calls Tryz.prog 179 #[rtV x v] w fun e w' => e = .returned (.agg #[.int .i64 (rk x), .int .i64 x.hops]) ∧ Below w.heap.size w w' := by
  unfold U32 at hx
  have hs : IntKind.i64.wrap x.seq = x.seq := by rw [IntKind.wrap_i64]; omega
  have hs1 : IntKind.i64.wrap (x.seq - 1) = x.seq - 1 := by rw [IntKind.wrap_i64]; omega
  have hb : ∀ u, Below w.heap.size w ((w.alloc (rtBox x v)).alloc (.cells u 283)) := fun u => ((Below.refl _ _).alloc (Nat.le_refl _) _).alloc (by simp) _
  obtain ⟨xd, xq, xh, xn, xv, xe, xb⟩ := x
  dsimp only [rtBox] at hs hs1 hb
  cases xv
  · go_enter Tryz.func179, Tryz.ntmps179
    go_wp2
    exact bodyPost_ret (v := .agg #[.int .i64 (xq - 1), .int .i64 xh]) (by simp [results, Tryz.results179, go_sem]) rfl ⟨rfl, hb _⟩
  · go_enter Tryz.func179, Tryz.ntmps179
    go_wp2
    exact bodyPost_ret (v := .agg #[.int .i64 xq, .int .i64 xh]) (by simp [results, Tryz.results179, go_sem]) rfl ⟨rfl, hb _⟩
set_option maxHeartbeats 1000000 in
theorem full_any (T M s : Nat) (self : Int) (f : Int → Option Nat) (w : World) (hT : TbB T self M w) (hm : MapP w M f s) : Calls Tryz.prog 70 #[.pointer (some ⟨T, 0, none⟩)] w fun e w' => e = .returned (.bool (decide (8 ≤ s))) ∧ w' = w := by
  obtain ⟨c0, c1⟩ := hT.cell
  have hl := hm.len
  go_enter Tryz.func70, Tryz.ntmps70
  go_wp2
  go_ret
  refine ⟨?_, rfl⟩
  have : decide (8 ≤ (s : Int)) = decide (8 ≤ s) := decide_eq_decide.2 (by omega)
  simp [this]
set_option maxHeartbeats 1000000 in
theorem valid_none (T M s : Nat) (self : Int) (f : Int → Option Nat) (d : Int) (hd : U32 d) (hf : f d = none) (w : World) (hT : TbB T self M w) (hm : MapP w M f s) : Calls Tryz.prog 116 #[.pointer (some ⟨T, 0, none⟩), .int .u32 d] w fun e w' => e = .returned (.pointer none) ∧ w' = w := by
  obtain ⟨c0, c1⟩ := hT.cell
  have hl := hm.look hd
  rw [hf] at hl
  simp only [ptrOf] at hl
  go_enter Tryz.func116, Tryz.ntmps116
  go_wp2
  go_ret
  exact ⟨rfl, rfl⟩
set_option maxHeartbeats 1000000 in
theorem valid_some (T M s B : Nat) (self : Int) (f : Int → Option Nat) (d : Int) (hd : U32 d) (hf : f d = some B) (x : Rt) (v : Value) (w : World) (hT : TbB T self M w) (hm : MapP w M f s) (hx : LnB B x v w) : Calls Tryz.prog 116 #[.pointer (some ⟨T, 0, none⟩), .int .u32 d] w fun e w' => e = .returned (.pointer (if x.valid then some ⟨B, 0, none⟩ else none)) ∧ w' = w := by
  obtain ⟨c0, c1⟩ := hT.cell
  obtain ⟨_, _, _, _, c4, _, _⟩ := hx.cell
  have hl := hm.look hd
  rw [hf] at hl
  simp only [ptrOf] at hl
  obtain ⟨xd, xq, xh, xn, xv, xe, xb⟩ := x
  dsimp only at c4
  cases xv
  · go_enter Tryz.func116, Tryz.ntmps116
    go_wp2
    go_ret
    exact ⟨rfl, rfl⟩
  · go_enter Tryz.func116, Tryz.ntmps116
    go_wp2
    go_ret
    exact ⟨rfl, rfl⟩
end Go.Proofs.YtakaadcpaeiccabGreat

namespace Go.Proofs.YtakaadcpaeiccabGreat
open Go.RowKit

set_option maxHeartbeats 1000000 in
theorem keys_any (M : Nat) (w : World) :
    Calls Tryz.prog 103 #[.map (some M)] w fun e w' => e = .returned (.func (.func 141) #[] #[.pointer (some ⟨w.heap.size, 0, none⟩)]) ∧ w' = w.alloc (.cells #[.map (some M)] 115) := by
  go_enter Tryz.func103, Tryz.ntmps103
  go_wp2
  go_ret
  exact ⟨rfl, rfl⟩
end Go.Proofs.YtakaadcpaeiccabGreat

namespace Go.Proofs.YtakaadcpaeiccabGreat
open Go.RowKit Go.Maps Go.Sort

abbrev encU : Int → Value := Value.int .u32
theorem encU_inj {x y : Int} (h : encU x = encU y) : x = y := by simpa [encU] using h
theorem keyOf_u32 {P : Program} {k : TypeId} (hk : P.underlying k = some (.int .u32)) {key : Value} {kl : Lit} (h : keyOf P k key = some kl) : ∃ x : Int, key = encU x ∧ kl = .int .u32 x ∧ (Lit.int .u32 x).wf = true := by
  cases key <;> simp [keyOf, hk, mapKey] at h
  rename_i q a
  obtain ⟨⟨rfl, hw⟩, rfl⟩ := h
  exact ⟨a, rfl, rfl, hw⟩
/-- The keys met so far. -/
def CollectedU {H : Type} (D0 : DataW H) (left : Lit → Bool) (ss : List Int) : Prop :=
  ss.Nodup ∧ (∀ x ∈ ss, (Lit.int .u32 x).wf = true) ∧ ∀ x, x ∈ ss ↔ (has D0 (.int .u32 x) = true ∧ left (.int .u32 x) = false)
/-- All keys, each once. -/
def KeyList {H : Type} (D0 : DataW H) (ss : List Int) : Prop :=
  ss.Nodup ∧ (∀ x ∈ ss, (Lit.int .u32 x).wf = true) ∧ ∀ x, x ∈ ss ↔ has D0 (.int .u32 x) = true
section
variable {H : Type} {D0 : DataW H} {left : Lit → Bool} {ss : List Int}
theorem CollectedU.start (D0 : DataW H) : CollectedU D0 (has D0) [] := ⟨List.nodup_nil, by simp, fun x => by cases has D0 (.int .u32 x) <;> simp⟩
theorem CollectedU.step (h : CollectedU D0 left ss) {x : Int} {y : DataW H} (hlk : left (.int .u32 x) = true) (hat : ∀ zd, D0.atKey (.int .u32 x) zd = y) (hw : (Lit.int .u32 x).wf = true) : CollectedU D0 (fun z => left z && !z.sameKey (.int .u32 x)) (ss ++ [x]) := by
  have hhas : has D0 (.int .u32 x) = true := has_true_of_atKey hat
  have hnew : x ∉ ss := fun hx => by have := ((h.2.2 x).1 hx).2; rw [hlk] at this; cases this
  refine ⟨List.nodup_append.2 ⟨h.1, by simp, fun a ha b hb => by simp at hb; subst hb; exact fun e => hnew (e ▸ ha)⟩, ?_, fun y => ?_⟩
  · intro a ha
    rcases List.mem_append.1 ha with ha | ha
    · exact h.2.1 a ha
    · simp at ha; subst ha; exact hw
  · by_cases hy : y = x
    · subst hy; simp [hhas, Lit.sameKey]
    · simp [h.2.2 y, hy, Lit.sameKey]
theorem CollectedU.keys (h : CollectedU D0 left ss) (hl : ∀ kl, left kl = false) : KeyList D0 ss := ⟨h.1, h.2.1, fun x => by rw [h.2.2 x, hl]; simp⟩
end

set_option maxRecDepth 100000 in
set_option maxHeartbeats 2000000 in
/-- The iterator of maps.Keys over a map of numbers: each key comes once, in some order. -/
theorem ukeys1_in {H : Type} (F : Fence) (n : Nat) (h10 : F.fn 141) (hro : F.round = none) (hn : 1 ≤ n) (l Bm b nn : Nat) (D0 : DataW H) {R : Value → Option (DataW H × List MemPlace)} (J : List Int → World → Prop)
    (hY : ∀ pre x W, J pre W → pre.length < Maps.size D0 → YieldAt F (n - 1) Tryz.prog l #[encU x] W fun e W' => e = .returned (.bool true) ∧ J (pre ++ [x]) W' ∧ KeepsWalks W W')
    (W : World) (hJ : AbidesFrom W.heap.size J) (hm : W.cell? ⟨Bm, 0, none⟩ = some (.map (some b))) (hown : W.ownsMap Tryz.prog 34 R b nn D0) (h0 : J [] W) :
    CallsIn F n Tryz.prog 141 #[.func (.yield l) #[] #[], .pointer (some ⟨Bm, 0, none⟩)] W fun e W' => (∃ v, e = .returned v) ∧ ∃ ss : List Int, KeyList D0 ss ∧ J ss W' := by
  refine callsIn_of_wp Tryz.func141 rfl h10 ?_ hro
  simp only [Tryz.ntmps141, List.size_toArray, List.length_cons, List.length_nil, Nat.reduceAdd, Nat.reduceSub, Array.replicate_succ, Array.replicate_zero, List.push_toArray, List.append_toArray, List.nil_append, List.cons_append]
  gi_wp2_with (first
    | (gi_at_range; refine wpListIn_range_own _ rfl _ 115 rfl 34 34 tu_law Tryz.underlying115 _ b nn _ rfl hown ?_; intro w0 hrg0 hg0 hs0)
    | gi_in)
  go_frame
  gi_loopw [3] (fun _ wr => ∃ (left : Lit → Bool) (cnt : Nat) (ss : List Int), wr.ranges Tryz.prog 34 R b W.heap.size nn D0 left cnt ∧ ss.length + cnt ≤ Maps.size D0 ∧ CollectedU D0 left ss ∧ J ss wr)
    (fun _ wr => wr.rangeLeft b W.heap.size)
  case atStart =>
    exact ⟨_, _, [], hrg0, by simp, CollectedU.start D0, hJ [] W w0 none h0 hg0 (fun r e => by cases e)⟩
  case round =>
    obtain ⟨left, cnt, ss, hrg, hcs, hC, hJs⟩ := hrel
    gi_wp2_with (first
      | (gi_at_next; refine wpListIn_next_ranges _ rfl _ rfl 34 tu_law R encU id (fun key kl hk => by obtain ⟨x, hx, _⟩ := keyOf_u32 Tryz.underlying34 hk; exact ⟨x, hx⟩) (fun v _ _ => ⟨v, rfl⟩) b W.heap.size nn _ _ _ rfl hrg ?_ ?_)
      | gi_in)
    · intro hc0 hl0
      gi_wp2
      go_end0
      exact ⟨⟨_, rfl⟩, ss, hC.keys hl0, hJs⟩
    · intro x c kl yd yp w2 cnt2 hkey hlk hv hat hrg2 hlt hg2 hs2 hen
      obtain ⟨x', ex, rfl, hwf⟩ := keyOf_u32 Tryz.underlying34 hkey
      obtain rfl : x = x' := encU_inj ex
      have hJ2 : J ss w2 := hJ ss wr w2 (some W.heap.size) hJs hg2 (fun r e => by cases e; exact ⟨Nat.le_refl _, hrg.iter_walk⟩)
      obtain ⟨fn, tmps, assign, body, hy, hR⟩ := hY ss x w2 hJ2 (by omega)
      clear hs2
      gi_wp2
      refine hR.mono ?_
      rintro e W3 ⟨rfl, hJ3, hk3⟩
      gi_wp2
      have hrg3 := hrg2.of_walks hk3
      go_roundw
      case rel => exact ⟨_, cnt2, ss ++ [x], hrg3, by simp; omega, hC.step hlk hat hwf, hJ3⟩
      case measure => rw [hrg3.left_eq, hrg.left_eq]; exact hlt

/-- maps.Keys hands back an iterator over the keys. -/
theorem ukeys_gives {H : Type} (F : Fence) (n : Nat) (h10 : F.fn 141) (hro : F.round = none) (hn : 1 ≤ n) (Bm b nn : Nat) (D0 : DataW H) {R : Value → Option (DataW H × List MemPlace)} (w : World) (hBm : Bm < w.heap.size)
    (hm : w.cell? ⟨Bm, 0, none⟩ = some (.map (some b))) (hown : w.ownsMap Tryz.prog 34 R b nn D0) :
    SeqGives F n Tryz.prog 141 #[.pointer (some ⟨Bm, 0, none⟩)] encU (KeyList D0) (Maps.size D0) w := fun l J W hW hJ hY h0 => by
  have hown' : W.ownsMap Tryz.prog 34 R b nn D0 := by
    have hbl := hown.lt
    obtain ⟨es, clock, hb, Ft, hs, hD⟩ := hown
    exact ⟨es, clock, (hW.block b hbl).trans hb, Ft, hs, hD⟩
  exact ukeys1_in F n h10 hro hn l Bm b nn D0 J hY W hJ ((hW.cell (p := ⟨Bm, 0, none⟩) hBm).trans hm) hown' h0

/-- What the keys of a map of numbers are. -/
theorem MapU.keyList {W : World} {M : Nat} {f : Int → Option Int} {s : Nat} (h : MapU W M f s) (w : World) (Bm : Nat) (hBm : Bm < w.heap.size) (hm : w.cell? ⟨Bm, 0, none⟩ = some (.map (some M))) (hW : Below W.heap.size W w) :
    SeqGives Fence.wide 1 Tryz.prog 141 #[.pointer (some ⟨Bm, 0, none⟩)] encU (fun ss => ss.Nodup ∧ ∀ x, x ∈ ss ↔ (U32 x ∧ (f x).isSome = true)) s w := by
  obtain ⟨D, h1, h2, h3⟩ := h
  have hl := h1.lt
  have h1' : w.ownsMap Tryz.prog 34 (plainElem Tryz.prog 34) M s D := by
    obtain ⟨es, clock, hb, Ft, hs, hD⟩ := h1
    exact ⟨es, clock, (hW.block M hl).trans hb, Ft, hs, hD⟩
  have hg := ukeys_gives Fence.wide 1 trivial rfl (Nat.le_refl _) Bm M s D w hBm hm h1'
  rw [h2] at hg
  intro l J W' hW' hJ hY h0
  refine (hg l J W' hW' hJ hY h0).mono ?_
  rintro e W2 ⟨hv, ss, hk, hj⟩
  refine ⟨hv, ss, ⟨hk.1, fun x => ?_⟩, hj⟩
  constructor
  · intro hx
    have hw := bounds_u32 (hk.2.1 x hx)
    have hU : U32 x := ⟨hw.1, by have := hw.2; omega⟩
    exact ⟨hU, by rw [← (h3 x hU).1]; exact (hk.2.2 x).1 hx⟩
  · rintro ⟨hU, hs⟩
    exact (hk.2.2 x).2 (by rw [(h3 x hU).1]; exact hs)
end Go.Proofs.YtakaadcpaeiccabGreat
