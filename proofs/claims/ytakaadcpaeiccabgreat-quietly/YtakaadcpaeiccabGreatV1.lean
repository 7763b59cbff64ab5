import Derived.Test.YtakaadcpaeiccabGreatGK
import Derived.Test.YtakaadcpaeiccabGreatGA
namespace Go.Proofs.YtakaadcpaeiccabGreat

/-- What counts of a list of records: the greatest number of each address; the greatest one of one's own. -/
def stepM (f : Int → Option Int) (r : Bool × Int × Int) : Int → Option Int := if r.1 then f else updU f r.2.1 (some (max ((f r.2.1).getD 0) r.2.2))
def stepO (c : Option Int) (r : Bool × Int × Int) : Option Int := if r.1 then some (max (c.getD 0) r.2.2) else c
def mpL (L : List (Bool × Int × Int)) : Int → Option Int := L.foldl stepM fun _ => none
def owL (L : List (Bool × Int × Int)) : Option Int := L.foldl stepO none
theorem mpL_snoc (L : List (Bool × Int × Int)) (r : Bool × Int × Int) : mpL (L ++ [r]) = stepM (mpL L) r := by simp [mpL]
theorem owL_snoc (L : List (Bool × Int × Int)) (r : Bool × Int × Int) : owL (L ++ [r]) = stepO (owL L) r := by simp [owL]
def ownP : Option Int → List (Bool × Int × Int)
  | none => []
  | some s => [(true, 0, s)]
def othP (f : Int → Option Int) (ss : List Int) : List (Bool × Int × Int) := ss.map fun a => (false, a, (f a).getD 0)
/-- The compact list of what counts. -/
def IsCmp (f : Int → Option Int) (c : Option Int) (out : List (Bool × Int × Int)) : Prop :=
  ∃ ss : List Int, ss.Pairwise (· < ·) ∧ (∀ a, a ∈ ss ↔ (f a).isSome = true) ∧ out = ownP c ++ othP f ss

theorem lt_unique {l l' : List Int} (h : l.Pairwise (· < ·)) (h' : l'.Pairwise (· < ·)) (hm : ∀ a, a ∈ l ↔ a ∈ l') : l = l' := by
  have n1 : l.Nodup := h.imp (fun hab => by omega)
  have n2 : l'.Nodup := h'.imp (fun hab => by omega)
  have hp := (List.perm_ext_iff_of_nodup n1 n2).2 hm
  refine List.Perm.eq_of_pairwise (le := fun a b => a < b) (fun a b _ _ h1 h2 => by omega) h h' hp
theorem IsCmp.unique {f : Int → Option Int} {c : Option Int} {o1 o2 : List (Bool × Int × Int)} (h1 : IsCmp f c o1) (h2 : IsCmp f c o2) : o1 = o2 := by
  obtain ⟨s1, p1, m1, rfl⟩ := h1
  obtain ⟨s2, p2, m2, rfl⟩ := h2
  rw [lt_unique p1 p2 (fun a => by rw [m1, m2])]

/-- A record put among those that count. -/
def putL : List (Bool × Int × Int) → Bool × Int × Int → List (Bool × Int × Int)
  | [], r => [r]
  | x :: l, r => if x.1 = r.1 ∧ x.2.1 = r.2.1 then (x.1, x.2.1, max r.2.2 x.2.2) :: l
    else if r.1 = true ∨ (x.1 = false ∧ x.2.1 > r.2.1) then r :: x :: l
    else x :: putL l r
def insU (a : Int) : List Int → List Int
  | [] => [a]
  | x :: l => if x = a then x :: l else if x > a then a :: x :: l else x :: insU a l
theorem mem_insU (a : Int) (l : List Int) (b : Int) : b ∈ insU a l ↔ b = a ∨ b ∈ l := by
  induction l with
  | nil => simp [insU]
  | cons x l ih =>
    unfold insU
    split
    · rename_i h; subst h; simp
    · split
      · simp
      · simp [ih]; constructor <;> rintro (h | h | h) <;> simp [h]
theorem insU_lt (a : Int) (l : List Int) (h : l.Pairwise (· < ·)) : (insU a l).Pairwise (· < ·) := by
  induction l with
  | nil => simp [insU]
  | cons x l ih =>
    unfold insU
    have hx := List.pairwise_cons.1 h
    split
    · exact h
    · split
      · refine List.pairwise_cons.2 ⟨fun b hb => ?_, h⟩
        rcases List.mem_cons.1 hb with rfl | hb
        · omega
        · have := hx.1 b hb; omega
      · refine List.pairwise_cons.2 ⟨fun b hb => ?_, ih hx.2⟩
        rcases (mem_insU a l b).1 hb with rfl | hb
        · omega
        · exact hx.1 b hb
theorem putL_oth (f : Int → Option Int) (a s : Int) (ss : List Int) (h : ss.Pairwise (· < ·)) (hm : ∀ b ∈ ss, (f b).isSome = true) (hf : a ∉ ss → (f a).getD 0 ≤ s) :
    putL (othP f ss) (false, a, s) = othP (updU f a (some (max ((f a).getD 0) s))) (insU a ss) := by
  induction ss with
  | nil =>
    have := hf (by simp)
    simp [othP, putL, insU, updU]
    omega
  | cons x l ih =>
    have hx := List.pairwise_cons.1 h
    have hother : ∀ m : List Int, (∀ b ∈ m, b ≠ a) → othP (updU f a (some (max ((f a).getD 0) s))) m = othP f m := by
      intro m hmm
      unfold othP
      refine List.map_congr_left fun b hb => ?_
      simp [updU, hmm b hb]
    simp only [othP, List.map_cons, putL, insU]
    by_cases e : x = a
    · subst e
      simp only [and_self, if_true]
      rw [List.map_cons]
      have := hother l (fun b hb => by have := hx.1 b hb; omega)
      simp only [othP] at this
      rw [this]
      simp [updU]
      omega
    · simp only [e, and_false, if_false, Bool.false_eq_true, false_or, true_and]
      by_cases g : x > a
      · simp only [g, if_true]
        have hn : a ∉ x :: l := by
          intro hb
          rcases List.mem_cons.1 hb with hb | hb
          · omega
          · have := hx.1 a hb; omega
        have h1 := hother (x :: l) (fun b hb => by rintro rfl; exact hn hb)
        simp only [othP] at h1
        rw [List.map_cons, h1]
        have := hf hn
        simp [updU]
        omega
      · simp only [g, if_false]
        have h1 := hother [x] (by simp; exact e)
        simp only [othP, List.map_cons, List.map_nil, List.cons.injEq, and_true] at h1
        have := ih hx.2 (fun b hb => hm b (by simp [hb])) (fun hn => hf (by simp; exact ⟨fun e' => e e'.symm, hn⟩))
        simp only [othP] at this
        rw [List.map_cons, h1, this]
theorem IsCmp.put {f : Int → Option Int} {c : Option Int} {out : List (Bool × Int × Int)} (h : IsCmp f c out) (r : Bool × Int × Int) (hs : 0 ≤ r.2.2) : IsCmp (stepM f r) (stepO c r) (putL out (norm r)) := by
  obtain ⟨ss, hp, hm, rfl⟩ := h
  obtain ⟨o, a, s⟩ := r
  cases o
  · refine ⟨insU a ss, insU_lt a ss hp, fun b => ?_, ?_⟩
    · rw [mem_insU, hm]
      by_cases e : b = a
      · simp [stepM, updU, e]
      · simp [stepM, updU, e]
    · have hq := putL_oth f a s ss hp (fun b hb => (hm b).1 hb) (fun hn => by
        have : f a = none := by
          cases hfa : f a with
          | none => rfl
          | some v => exact absurd ((hm a).2 (by simp [hfa])) hn
        simp [this]; exact hs)
      cases c with
      | none => simpa [ownP, stepO, stepM, norm] using hq
      | some t =>
        simp only [ownP, stepO, stepM, norm, List.cons_append, List.nil_append, putL, Bool.false_eq_true, if_false]
        simp only [Bool.true_eq_false, false_and, if_false, or_self]
        rw [hq]
  · refine ⟨ss, hp, fun b => by simpa [stepM] using hm b, ?_⟩
    simp only [stepM, stepO, if_true, norm]
    cases c with
    | none =>
      simp only [ownP, List.nil_append, Option.getD_none]
      rw [Int.max_eq_right hs]
      cases ss <;> simp [othP, putL]
    | some t => simp [ownP, putL, Int.max_comm]
theorem IsCmp.nil : IsCmp (fun _ => none) none [] := ⟨[], List.Pairwise.nil, fun a => by simp, rfl⟩
/-- Addresses and numbers of what counts are in their bounds. -/
def MB (f : Int → Option Int) : Prop := ∀ a v, f a = some v → U32 a ∧ U32 v
def OB (c : Option Int) : Prop := ∀ v, c = some v → U32 v
theorem u32_max {a b : Int} (h : U32 a) (h' : U32 b) : U32 (max a b) := by
  unfold U32 at *; omega
theorem MB.getD {f : Int → Option Int} (h : MB f) (a : Int) : U32 ((f a).getD 0) := by
  cases e : f a with
  | none => simp [U32]
  | some v => exact (h a v e).2
theorem OB.getD {c : Option Int} (h : OB c) : U32 (c.getD 0) := by
  cases e : c with
  | none => simp [U32]
  | some v => exact h v e
theorem MB.step {f : Int → Option Int} (h : MB f) {r : Bool × Int × Int} (ha : U32 r.2.1) (hs : U32 r.2.2) : MB (stepM f r) := by
  obtain ⟨o, a, s⟩ := r
  cases o
  · intro b v hb
    simp only [stepM, Bool.false_eq_true, if_false, updU] at hb
    by_cases e : b = a
    · simp only [e, if_true, Option.some.injEq] at hb
      subst hb
      exact ⟨e ▸ ha, u32_max (h.getD a) hs⟩
    · simp only [e, if_false] at hb
      exact h b v hb
  · exact h
theorem OB.step {c : Option Int} (h : OB c) {r : Bool × Int × Int} (hs : U32 r.2.2) : OB (stepO c r) := by
  obtain ⟨o, a, s⟩ := r
  cases o
  · exact h
  · intro v hv
    simp only [stepO, if_true, Option.some.injEq] at hv
    subst hv
    exact u32_max h.getD hs
end Go.Proofs.YtakaadcpaeiccabGreat
