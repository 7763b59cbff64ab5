import Derived.Test.YtppbdalkfkemgaaJ5
namespace Go.Proofs.Ytppbdalkfkemgaa

def recB3 (x : Bool × Int × Int) : List Int := recB x.1 x.2.1 x.2.2
/-- A record as it is written: one's own has the address 0. -/
def norm (x : Bool × Int × Int) : Bool × Int × Int := (x.1, if x.1 then 0 else x.2.1, x.2.2)
def flatR (L : List (Bool × Int × Int)) : List Int := L.flatMap recB3
/-- The numbers of records are in their bounds. -/
def RBd (L : List (Bool × Int × Int)) : Prop := ∀ x ∈ L, (0 ≤ x.2.1 ∧ x.2.1 < 4294967296) ∧ 0 ≤ x.2.2 ∧ x.2.2 < 4294967296
theorem flatR_length (L : List (Bool × Int × Int)) : (flatR L).length = 13 * L.length := by
  induction L with
  | nil => rfl
  | cons a L ih =>
    simp only [flatR, List.flatMap_cons, List.length_append, List.length_cons] at ih ⊢
    rw [ih, show (recB3 a).length = 13 from rfl]
    omega
theorem flatR_append (a b : List (Bool × Int × Int)) : flatR (a ++ b) = flatR a ++ flatR b := by simp [flatR]
theorem flatR_cons (x : Bool × Int × Int) (L : List (Bool × Int × Int)) : flatR (x :: L) = recB3 x ++ flatR L := rfl
theorem flatR_b {L : List (Bool × Int × Int)} (h : RBd L) : ∀ x ∈ flatR L, 0 ≤ x ∧ x ≤ 255 := by
  intro x hx
  simp only [flatR, List.mem_flatMap] at hx
  obtain ⟨y, hy, hx⟩ := hx
  have := h y hy
  exact recB_b this.1.1 this.1.2 this.2.1 this.2.2 x hx

theorem n4_b4' (n : Int) : n4 (n / 16777216) (n / 65536 % 256) (n / 256 % 256) (n % 256) = n := by
  unfold n4
  omega
theorem rO_rec (x : Bool × Int × Int) (ys : List Int) : rO (recB3 x ++ ys) = x.1 := by
  obtain ⟨o, a, s⟩ := x
  cases o <;> rfl
theorem rA_rec (x : Bool × Int × Int) (ys : List Int) : rA (recB3 x ++ ys) = if x.1 then 0 else x.2.1 := by
  obtain ⟨o, a, s⟩ := x
  cases o
  · exact n4_b4' a
  · rfl
theorem rS_rec (x : Bool × Int × Int) (ys : List Int) : rS (recB3 x ++ ys) = x.2.2 := by
  obtain ⟨o, a, s⟩ := x
  exact n4_b4' s
theorem recB_norm (x : Bool × Int × Int) : recB x.1 (if x.1 then 0 else x.2.1) x.2.2 = recB3 x := by
  obtain ⟨o, a, s⟩ := x
  cases o <;> rfl
theorem okR_rec (x : Bool × Int × Int) (ys : List Int) : okR (recB3 x ++ ys) = true := by
  have hl : (recB3 x).length = 13 := rfl
  unfold okR
  rw [rO_rec, rA_rec, rS_rec, recB_norm, List.take_append_of_le_length (by omega), List.take_of_length_le (by omega), decide_eq_true rfl, Bool.and_true]
  exact decide_eq_true (by rw [List.length_append]; omega)
theorem okR_short {xs : List Int} (h : xs.length < 13) : okR xs = false := by
  unfold okR
  rw [decide_eq_false (by omega), Bool.false_and]

theorem rdJ_flat (L : List (Bool × Int × Int)) (r : List Int) (hr : okR r = false) : ∀ f, (flatR L ++ r).length ≤ f → rdJ f (flatR L ++ r) = L.map norm := by
  induction L with
  | nil =>
    intro f _
    simp only [flatR, List.flatMap_nil, List.nil_append, List.map_nil]
    exact rdJ_no hr f
  | cons x L ih =>
    intro f hf
    have hl : (recB3 x).length = 13 := rfl
    have he : flatR (x :: L) ++ r = recB3 x ++ (flatR L ++ r) := by simp [flatR]
    rw [he] at hf ⊢
    rw [rdJ_yes (okR_rec x _) hf, rO_rec, rA_rec, rS_rec]
    rw [List.drop_append_of_le_length (by omega), List.drop_of_length_le (by omega), List.nil_append, ih _ (by rw [List.length_append, hl] at hf; omega)]
    rfl
/-- What is read of records that are followed by what is none. -/
theorem jl_flat (L : List (Bool × Int × Int)) (r : List Int) (hr : okR r = false) : jl (flatR L ++ r) = L.map norm := rdJ_flat L r hr _ (Nat.le_refl _)
theorem jl_all (L : List (Bool × Int × Int)) : jl (flatR L) = L.map norm := by
  have := jl_flat L [] rfl
  rwa [List.append_nil] at this

theorem flatR_split (L : List (Bool × Int × Int)) (k : Nat) (hk : k < 13 * L.length) :
    ∃ x, L[k / 13]? = some x ∧ flatR L = flatR (L.take (k / 13)) ++ (recB3 x ++ flatR (L.drop (k / 13 + 1))) := by
  have hq : k / 13 < L.length := by omega
  refine ⟨L[k / 13], List.getElem?_eq_getElem hq, ?_⟩
  have e : L = L.take (k / 13) ++ L[k / 13] :: L.drop (k / 13 + 1) := by
    rw [List.getElem_cons_drop, List.take_append_drop]
  conv => lhs; rw [e]
  rw [flatR_append, flatR_cons]
theorem jl_cut (L : List (Bool × Int × Int)) (k : Nat) (hk : k < 13 * L.length) : jl ((flatR L).take k) = (L.take (k / 13)).map norm := by
  obtain ⟨x, _, he⟩ := flatR_split L k hk
  have hl : (flatR (L.take (k / 13))).length = 13 * (k / 13) := by
    rw [flatR_length, List.length_take, Nat.min_eq_left (by omega)]
  rw [he, List.take_append, List.take_of_length_le (by omega)]
  refine jl_flat _ _ (okR_short ?_)
  rw [List.length_take, hl]
  omega

theorem b4_inj {m n : Int} (h : b4 m = b4 n) : m = n := by
  simp only [b4, List.cons.injEq, and_true] at h
  omega
/-- A record in which one byte is another is none. -/
theorem okR_torn {x : Bool × Int × Int} (hx : (0 ≤ x.2.1 ∧ x.2.1 < 4294967296) ∧ 0 ≤ x.2.2 ∧ x.2.2 < 4294967296) {m : Nat} (hm : m < 13) {y z : Int} (hz : (recB3 x)[m]? = some z) (hy : 0 ≤ y ∧ y ≤ 255) (hne : y ≠ z) (r : List Int) (hr : ∀ u ∈ r, 0 ≤ u ∧ u ≤ 255) :
    okR ((recB3 x).set m y ++ r) = false := by
  cases hok : okR ((recB3 x).set m y ++ r)
  · rfl
  exfalso
  have hl : (recB3 x).length = 13 := rfl
  have hall : ∀ u ∈ (recB3 x).set m y ++ r, 0 ≤ u ∧ u ≤ 255 := by
    intro u hu
    rcases List.mem_append.1 hu with hu | hu
    · rcases List.mem_or_eq_of_mem_set hu with hu | rfl
      · exact recB_b hx.1.1 hx.1.2 hx.2.1 hx.2.2 u hu
      · exact hy
    · exact hr u hu
  simp only [okR, Bool.and_eq_true, decide_eq_true_eq] at hok
  have h2 := hok.2
  rw [List.take_append_of_le_length (by rw [List.length_set]; omega), List.take_of_length_le (by rw [List.length_set]; omega)] at h2
  have hg : ∀ i, i < 13 → 0 ≤ ((recB3 x).set m y ++ r).getD i 0 ∧ ((recB3 x).set m y ++ r).getD i 0 ≤ 255 := by
    intro i hi
    have hlt : i < ((recB3 x).set m y ++ r).length := by rw [List.length_append, List.length_set]; omega
    rw [show ((recB3 x).set m y ++ r).getD i 0 = ((recB3 x).set m y ++ r)[i] by simp only [List.getD, List.getElem?_eq_getElem hlt, Option.getD_some]]
    exact hall _ (List.getElem_mem hlt)
  have hA := n4_b' (hg 1 (by omega)) (hg 2 (by omega)) (hg 3 (by omega)) (hg 4 (by omega))
  have hS := n4_b' (hg 5 (by omega)) (hg 6 (by omega)) (hg 7 (by omega)) (hg 8 (by omega))
  have hH' := recH_b (o := rO ((recB3 x).set m y ++ r)) hA.1 hA.2 hS.1 hS.2
  change (recB3 x).set m y = recB _ (rA _) (rS _) at h2
  have hH : ∀ u ∈ recH x.1 x.2.1 x.2.2, 0 ≤ u ∧ u ≤ 255 := recH_b hx.1.1 hx.1.2 hx.2.1 hx.2.2
  generalize rO ((recB3 x).set m y ++ r) = o' at h2 hH'
  change ∀ u ∈ recH o' (rA _) (rS _), _ at hH'
  generalize rA ((recB3 x).set m y ++ r) = a' at h2 hH'
  generalize rS ((recB3 x).set m y ++ r) = s' at h2 hH'
  have hL : (recH x.1 x.2.1 x.2.2).length = 9 := rfl
  have hL' : (recH o' a' s').length = 9 := rfl
  change (recH x.1 x.2.1 x.2.2 ++ b4 (crc (recH x.1 x.2.1 x.2.2))).set m y = recH o' a' s' ++ b4 (crc (recH o' a' s')) at h2
  change (recH x.1 x.2.1 x.2.2 ++ b4 (crc (recH x.1 x.2.1 x.2.2)))[m]? = some z at hz
  generalize recH x.1 x.2.1 x.2.2 = H at hH hL h2 hz
  generalize recH o' a' s' = H' at hH' hL' h2
  by_cases h9 : m < 9
  · rw [List.set_append_left _ _ (by omega)] at h2
    have h3 := List.append_inj h2 (by rw [List.length_set, hL, hL'])
    have hc : crc H = crc H' := b4_inj h3.2
    have hn : crcN H = crcN H' := by unfold crc at hc; omega
    rw [List.getElem?_append_left (by omega)] at hz
    obtain ⟨hmL, rfl⟩ := List.getElem?_eq_some_iff.1 hz
    rw [← h3.1] at hn
    have e1 : H = H.take m ++ H[m] :: H.drop (m + 1) := by rw [List.getElem_cons_drop, List.take_append_drop]
    have e2 : H.set m y = H.take m ++ y :: H.drop (m + 1) := by
      rw [List.set_eq_take_append_cons_drop, if_pos hmL]
    have n1 : nats H = nats (H.take m) ++ H[m].toNat :: nats (H.drop (m + 1)) := (congrArg nats e1).trans (by unfold nats; rw [List.map_append, List.map_cons])
    have n2 : nats (H.set m y) = nats (H.take m) ++ y.toNat :: nats (H.drop (m + 1)) := (congrArg nats e2).trans (by unfold nats; rw [List.map_append, List.map_cons])
    unfold crcN at hn
    rw [n1, n2] at hn
    have hz0 := hH _ (List.getElem_mem hmL)
    have := Crc.run_other (by omega) (nats_b (take_b hH m)) (nats_b (fun u hu => hH u (List.mem_of_mem_drop hu))) (by omega) (by omega) hn
    omega
  · rw [List.set_append_right _ _ (by omega)] at h2
    have h3 := List.append_inj h2 (by rw [hL, hL'])
    rw [List.getElem?_append_right (by omega)] at hz
    have h4 := h3.2
    rw [← h3.1] at h4
    have h5 : ((b4 (crc H)).set (m - H.length) y)[m - H.length]? = some y := by
      rw [List.getElem?_set_self (by simp [b4_length]; omega)]
    rw [h4, hz] at h5
    exact hne (Option.some.inj h5).symm
end Go.Proofs.Ytppbdalkfkemgaa
