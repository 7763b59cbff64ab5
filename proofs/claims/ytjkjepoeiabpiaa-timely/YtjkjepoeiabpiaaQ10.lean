import Derived.Test.YtjkjepoeiabpiaaQ9
namespace Go.Proofs.Ytjkjepoeiabpiaa
open Go.RowKit Go.Maps
open Hp

/-- The i-th timer that is added: its time, its id, what it is. -/
def trA (A : List Int) (i : Nat) : Tm := (A.getD i 0, (i : Int) + 1, (i : Int))
def tmsOf (A : List Int) (k : Nat) : List Tm := (List.range k).map (trA A)
theorem tmsOf_succ (A : List Int) (k : Nat) : tmsOf A (k + 1) = tmsOf A k ++ [trA A k] := by
  simp [tmsOf, List.range_succ]
theorem tmsOf_length (A : List Int) (k : Nat) : (tmsOf A k).length = k := by simp [tmsOf]
theorem tmsOf_id {A : List Int} {k : Nat} {x : Tm} (hx : x ∈ tmsOf A k) : ∃ i, i < k ∧ x = trA A i := by
  simp only [tmsOf, List.mem_map, List.mem_range] at hx
  obtain ⟨i, hi, rfl⟩ := hx
  exact ⟨i, hi, rfl⟩

/-- What is still to happen, and what has gone. -/
structure Kp (A : List Int) (G : List Bool) (h : List Tm) : Prop where
  len : G.length = A.length
  sub : ∀ x ∈ h, ∃ i, i < A.length ∧ x = trA A i ∧ G[i]? = some false
  sup : ∀ i, G[i]? = some false → trA A i ∈ h
  nd : h.Nodup
theorem Kp.start {A : List Int} {h : List Tm} (hp : h.Perm (tmsOf A A.length)) : Kp A (List.replicate A.length false) h := by
  refine ⟨by simp, fun x hx => ?_, fun i hi => ?_, ?_⟩
  · obtain ⟨i, hi, rfl⟩ := tmsOf_id (hp.mem_iff.1 hx)
    exact ⟨i, hi, rfl, by simp [hi]⟩
  · have hi' : i < A.length := by
      rcases Nat.lt_or_ge i A.length with a | a
      · exact a
      · rw [List.getElem?_eq_none (by simpa using a)] at hi; cases hi
    refine hp.mem_iff.2 ?_
    simp only [tmsOf, List.mem_map, List.mem_range]
    exact ⟨i, hi', rfl⟩
  · refine (List.Perm.nodup_iff hp).2 ?_
    unfold tmsOf
    rw [List.nodup_iff_pairwise_ne, List.pairwise_map]
    exact (List.nodup_range).imp fun {a b} hne e => hne (by have := congrArg (fun t : Tm => t.2.2) e; simp [trA] at this; omega)
theorem trA_inj {A : List Int} {i j : Nat} (h : trA A i = trA A j) : i = j := by
  have := congrArg (fun t : Tm => t.2.2) h
  simp only [trA] at this
  omega
/-- One is taken out. -/
theorem Kp.take {A : List Int} {G : List Bool} {h h' : List Tm} (k : Kp A G h) {i : Nat} (hp : (trA A i :: h').Perm h) : G[i]? = some false ∧ i < A.length ∧ Kp A (G.set i true) h' := by
  have hm : trA A i ∈ h := hp.mem_iff.1 (by simp)
  obtain ⟨j, hj, he, hG⟩ := k.sub _ hm
  obtain rfl := trA_inj he
  have hnd : (trA A i :: h').Nodup := (List.Perm.nodup_iff hp).2 k.nd
  rw [List.nodup_cons] at hnd
  refine ⟨hG, hj, by rw [List.length_set]; exact k.len, fun x hx => ?_, fun l hl => ?_, hnd.2⟩
  · obtain ⟨m, hm1, rfl, hm2⟩ := k.sub x (hp.mem_iff.1 (by simp [hx]))
    refine ⟨m, hm1, rfl, ?_⟩
    have hne : i ≠ m := by
      rintro rfl
      exact hnd.1 hx
    rw [List.getElem?_set_ne hne]
    exact hm2
  · have hne : i ≠ l := by
      rintro rfl
      rw [List.getElem?_set_self (by rw [k.len]; exact hj)] at hl
      cases hl
    rw [List.getElem?_set_ne hne] at hl
    have := hp.mem_iff.2 (k.sup l hl)
    rcases List.mem_cons.1 this with e | e
    · exact absurd (trA_inj e).symm hne
    · exact e
theorem Kp.get {A : List Int} {G : List Bool} {h : List Tm} (k : Kp A G h) {i : Nat} (hi : i < A.length) : ∃ b, G[i]? = some b ∧ (b = true ↔ trA A i ∉ h) := by
  refine ⟨_, List.getElem?_eq_getElem (by rw [k.len]; exact hi), ?_⟩
  constructor
  · intro hb hm
    obtain ⟨j, _, he, hG⟩ := k.sub _ hm
    obtain rfl := trA_inj he
    rw [List.getElem?_eq_getElem (by rw [k.len]; exact hi), hb] at hG
    cases hG
  · intro hn
    cases hb : G[i]'(by rw [k.len]; exact hi) with
    | true => rfl
    | false => exact absurd (k.sup i (by rw [List.getElem?_eq_getElem (by rw [k.len]; exact hi), hb])) hn

/-- Numbers and bools as cells. -/
def Us (xs : List Int) : List Value := xs.map (Value.int .u64)
def Is (xs : List Int) : List Value := xs.map (Value.int .i64)
def Bs (xs : List Bool) : List Value := xs.map Value.bool
theorem Us_get {xs : List Int} {i : Nat} (h : i < xs.length) : (Us xs)[i]? = some (.int .u64 (xs.getD i 0)) := by simp [Us, List.getD, List.getElem?_eq_getElem h]
theorem Is_get {xs : List Int} {i : Nat} (h : i < xs.length) : (Is xs)[i]? = some (.int .i64 (xs.getD i 0)) := by simp [Is, List.getD, List.getElem?_eq_getElem h]
theorem Bs_set (xs : List Bool) (i : Nat) (b : Bool) : (Bs xs).set i (.bool b) = Bs (xs.set i b) := by simp [Bs, List.map_set]
end Go.Proofs.Ytjkjepoeiabpiaa
