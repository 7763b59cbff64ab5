
namespace Go.Proofs.YtakaadcpaeiccabGreat.Hp

/-- Something that is to happen: its time, its id, what it is. -/
abbrev Tm := Int × Int × Int
def z : Tm := (0, 0, 0)
def ahd (a b : Tm) : Bool := if a.1 = b.1 then decide (a.2.1 < b.2.1) else decide (a.1 < b.1)
/-- a is not behind b. -/
def Le (a b : Tm) : Prop := ahd b a = false
theorem Le.iff {a b : Tm} : Le a b ↔ a.1 < b.1 ∨ (a.1 = b.1 ∧ a.2.1 ≤ b.2.1) := by
  unfold Le ahd
  split <;> simp <;> omega
theorem ahd_iff {a b : Tm} : ahd a b = true ↔ a.1 < b.1 ∨ (a.1 = b.1 ∧ a.2.1 < b.2.1) := by
  unfold ahd
  split <;> simp <;> omega
theorem Le.refl (a : Tm) : Le a a := Le.iff.2 (by omega)
theorem Le.trans {a b c : Tm} (h1 : Le a b) (h2 : Le b c) : Le a c := by
  rw [Le.iff] at *
  omega
theorem Le.of {a b : Tm} (h : ahd a b = true) : Le a b := by
  rw [ahd_iff] at h
  rw [Le.iff]
  omega

/-- What stands at a place. -/
def at' (h : List Tm) (i : Nat) : Tm := h.getD i z
theorem at_some {h : List Tm} {i : Nat} {x : Tm} (hx : h[i]? = some x) : at' h i = x := by simp [at', List.getD, hx]
theorem at_get {h : List Tm} {i : Nat} (hi : i < h.length) : h[i]? = some (at' h i) := by simp [at', List.getD, List.getElem?_eq_getElem hi]
/-- Two change places. -/
def sw (h : List Tm) (i j : Nat) : List Tm := (h.set i (at' h j)).set j (at' h i)
theorem sw_length (h : List Tm) (i j : Nat) : (sw h i j).length = h.length := by simp [sw]
theorem at_sw {h : List Tm} {i j : Nat} (hi : i < h.length) (hj : j < h.length) (k : Nat) : at' (sw h i j) k = if k = j then at' h i else if k = i then at' h j else at' h k := by
  unfold at' sw
  simp only [List.getD, List.getElem?_set, List.length_set]
  by_cases h1 : k = j
  · subst h1
    simp [hj]
    rfl
  · rw [if_neg h1, if_neg (Ne.symm h1)]
    by_cases h2 : k = i
    · subst h2
      simp [hi]
      rfl
    · rw [if_neg h2, if_neg (Ne.symm h2)]
theorem sw_perm {h : List Tm} {i j : Nat} (hi : i < h.length) (hj : j < h.length) : (sw h i j).Perm h := by
  have e1 : at' h i = h[i] := by simp [at', List.getD, List.getElem?_eq_getElem hi]
  have e2 : at' h j = h[j] := by simp [at', List.getD, List.getElem?_eq_getElem hj]
  unfold sw
  rw [e1, e2]
  exact List.set_set_perm hi hj

def par (j : Nat) : Nat := (j - 1) / 2
def Ok (h : List Tm) (j : Nat) : Prop := Le (at' h (par j)) (at' h j)
def Heap (h : List Tm) : Prop := ∀ j, 0 < j → j < h.length → Ok h j
/-- What stands over a place is not behind what stands below it. -/
def Over (h : List Tm) (i : Nat) : Prop := 0 < i → ∀ c, 0 < c → c < h.length → par c = i → Le (at' h (par i)) (at' h c)
def Both (h : List Tm) (i : Nat) : Prop := (∀ j, 0 < j → j < h.length → j ≠ i → par j ≠ i → Ok h j) ∧ Over h i
def Up (h : List Tm) (i : Nat) : Prop := (∀ j, 0 < j → j < h.length → j ≠ i → Ok h j) ∧ Over h i
def Down (h : List Tm) (i : Nat) : Prop := (∀ j, 0 < j → j < h.length → par j ≠ i → Ok h j) ∧ Over h i

theorem par_lt {j : Nat} (h : 0 < j) : par j < j := by unfold par; omega
theorem Up.both {h : List Tm} {i : Nat} (u : Up h i) : Both h i := ⟨fun j h1 h2 h3 _ => u.1 j h1 h2 h3, u.2⟩
theorem Heap.down {h : List Tm} (u : Heap h) (i : Nat) : Down h i := by
  refine ⟨fun j h1 h2 _ => u j h1 h2, fun hi c h1 h2 h3 => ?_⟩
  have hc := u c h1 h2
  unfold Ok at hc
  rw [h3] at hc
  have hl := par_lt h1
  exact (u i hi (by omega)).trans hc
theorem up_step {h : List Tm} {k : Nat} (u : Both h k) (h0 : 0 < k) (hk : k < h.length) (ha : ahd (at' h k) (at' h (par k)) = true) : Up (sw h k (par k)) (par k) := by
  have hp := par_lt h0
  have hs := at_sw hk (show par k < h.length by omega)
  have hle := Le.of ha
  refine ⟨fun j h1 h2 h3 => ?_, fun h1 c h2 h3 h4 => ?_⟩
  · rw [sw_length] at h2
    unfold Ok
    rw [hs, hs]
    rw [if_neg h3]
    by_cases hjk : j = k
    · subst hjk
      rw [if_pos rfl, if_pos rfl]
      exact hle
    · rw [if_neg hjk]
      by_cases hpp : par j = par k
      · rw [if_pos hpp]
        have := u.1 j h1 h2 hjk (by omega)
        unfold Ok at this
        rw [hpp] at this
        exact hle.trans this
      · rw [if_neg hpp]
        by_cases hpk : par j = k
        · rw [if_pos hpk]
          exact u.2 h0 j h1 h2 hpk
        · rw [if_neg hpk]
          exact u.1 j h1 h2 hjk hpk
  · rw [sw_length] at h3
    have hpp := par_lt h1
    rw [hs, hs, if_neg (by omega), if_neg (by omega)]
    have hup : Le (at' h (par (par k))) (at' h (par k)) := u.1 (par k) h1 (by omega) (by omega) (by omega)
    rw [if_neg (by have := par_lt h2; omega)]
    by_cases hck : c = k
    · rw [if_pos hck]
      exact hup
    · rw [if_neg hck]
      have := u.1 c h2 h3 hck (by omega)
      unfold Ok at this
      rw [h4] at this
      exact hup.trans this
theorem Up.top {h : List Tm} (u : Up h 0) : Heap h := fun j h1 h2 => u.1 j h1 h2 (by omega)
theorem Up.done {h : List Tm} {k : Nat} (u : Up h k) (ho : Ok h k) : Heap h := fun j h1 h2 => by
  by_cases hj : j = k
  · subst hj; exact ho
  · exact u.1 j h1 h2 hj
theorem Both.down {h : List Tm} {i : Nat} (u : Both h i) (ho : i = 0 ∨ Ok h i) : Down h i := by
  refine ⟨fun j h1 h2 h3 => ?_, u.2⟩
  by_cases hj : j = i
  · subst hj
    rcases ho with rfl | ho
    · omega
    · exact ho
  · exact u.1 j h1 h2 hj h3
theorem down_step {h : List Tm} {k c : Nat} (u : Down h k) (hc0 : 0 < c) (hc : c < h.length) (hp : par c = k) (ha : ahd (at' h c) (at' h k) = true)
    (hm : ∀ d, 0 < d → d < h.length → par d = k → Le (at' h c) (at' h d)) : Down (sw h k c) c := by
  have hkc := par_lt hc0
  have hk : k < h.length := by omega
  have hs := at_sw hk hc
  have hle := Le.of ha
  refine ⟨fun j h1 h2 h3 => ?_, fun _ d h2 h3 h4 => ?_⟩
  · rw [sw_length] at h2
    unfold Ok
    rw [hs, hs, if_neg h3]
    by_cases hpk : par j = k
    · rw [if_pos hpk]
      by_cases hjc : j = c
      · rw [if_pos hjc]
        exact hle
      · rw [if_neg hjc, if_neg (by have := par_lt h1; omega)]
        exact hm j h1 h2 hpk
    · rw [if_neg hpk, if_neg (by rintro rfl; exact hpk hp)]
      by_cases hjk : j = k
      · subst hjk
        rw [if_pos rfl]
        have := u.2 h1 c hc0 hc hp
        exact this
      · rw [if_neg hjk]
        exact u.1 j h1 h2 hpk
  · rw [sw_length] at h3
    have hpd := par_lt h2
    rw [hs, hs, hp, if_neg (by omega), if_pos rfl, if_neg (by omega), if_neg (by omega)]
    have := u.1 d h2 h3 (by omega)
    unfold Ok at this
    rw [h4] at this
    exact this
theorem Down.done {h : List Tm} {k : Nat} (u : Down h k) (hm : ∀ d, 0 < d → d < h.length → par d = k → Le (at' h k) (at' h d)) : Heap h := fun j h1 h2 => by
  by_cases hp : par j = k
  · unfold Ok
    rw [hp]
    exact hm j h1 h2 hp
  · exact u.1 j h1 h2 hp
theorem Heap.least {h : List Tm} (u : Heap h) : ∀ j, j < h.length → Le (at' h 0) (at' h j) := by
  intro j
  induction j using Nat.strongRecOn with
  | ind j ih =>
    intro hj
    by_cases h0 : j = 0
    · subst h0; exact Le.refl _
    · have hp := par_lt (show 0 < j by omega)
      exact (ih _ hp (by omega)).trans (u j (by omega) hj)

/-- One is taken out: the last one comes into its place. -/
def out (h : List Tm) (i : Nat) : List Tm := (sw h i (h.length - 1)).take (h.length - 1)
theorem out_length (h : List Tm) (i : Nat) : (out h i).length = h.length - 1 := by simp [out, sw_length]
theorem at_out {h : List Tm} {i : Nat} (hi : i < h.length) {k : Nat} (hk : k < h.length - 1) : at' (out h i) k = if k = i then at' h (h.length - 1) else at' h k := by
  have hs := at_sw hi (show h.length - 1 < h.length by omega) k
  rw [if_neg (by omega)] at hs
  rw [← hs]
  unfold out at'
  simp only [List.getD, List.getElem?_take, if_pos hk]
theorem out_both {h : List Tm} {i : Nat} (u : Heap h) (hi : i < h.length - 1) : Both (out h i) i := by
  have ha := fun {k} (hk : k < h.length - 1) => at_out (show i < h.length by omega) hk
  refine ⟨fun j h1 h2 h3 h4 => ?_, fun h1 c h2 h3 h4 => ?_⟩
  · rw [out_length] at h2
    have hp := par_lt h1
    unfold Ok
    rw [ha h2, ha (by omega), if_neg h3, if_neg h4]
    exact u j h1 (by omega)
  · rw [out_length] at h3
    have hp := par_lt h1
    have hq := par_lt h2
    rw [ha h3, ha (by omega), if_neg (by omega), if_neg (by omega)]
    have a := u i h1 (by omega)
    have b := u c h2 (by omega)
    unfold Ok at a b
    rw [h4] at b
    exact a.trans b
theorem out_last {h : List Tm} (u : Heap h) (h0 : 0 < h.length) : Heap (out h (h.length - 1)) := by
  have ha := fun {k} (hk : k < h.length - 1) => at_out (show h.length - 1 < h.length by omega) hk
  intro j h1 h2
  rw [out_length] at h2
  have hp := par_lt h1
  unfold Ok
  rw [ha h2, ha (by omega), if_neg (by omega), if_neg (by omega)]
  exact u j h1 (by omega)
theorem out_perm {h : List Tm} {i : Nat} (hi : i < h.length) : (at' h i :: out h i).Perm h := by
  have hp := sw_perm hi (show h.length - 1 < h.length by omega)
  have hl : (sw h i (h.length - 1))[h.length - 1]? = some (at' h i) := by
    rw [at_get (by rw [sw_length]; omega), at_sw hi (by omega), if_pos rfl]
  have e : sw h i (h.length - 1) = out h i ++ [at' h i] := by
    conv => lhs; rw [← List.take_append_drop (h.length - 1) (sw h i (h.length - 1))]
    unfold out
    congr 1
    have hd : (sw h i (h.length - 1)).length = h.length := sw_length _ _ _
    rw [List.drop_eq_getElem_cons (by omega), List.drop_of_length_le (by omega)]
    rw [List.getElem?_eq_getElem (by omega)] at hl
    rw [Option.some.inj hl]
  rw [e] at hp
  exact (List.perm_append_comm (l₁ := [at' h i]) (l₂ := out h i)).trans hp
theorem add_both {h : List Tm} (u : Heap h) (x : Tm) : Both (h ++ [x]) h.length := by
  have ha : ∀ k, k < h.length → at' (h ++ [x]) k = at' h k := by
    intro k hk
    simp [at', List.getD, List.getElem?_append_left hk]
  refine ⟨fun j h1 h2 h3 _ => ?_, fun h1 c h2 h3 h4 => ?_⟩
  · rw [List.length_append, List.length_singleton] at h2
    have hp := par_lt h1
    unfold Ok
    rw [ha j (by omega), ha _ (by omega)]
    exact u j h1 (by omega)
  · rw [List.length_append, List.length_singleton] at h3
    have := par_lt h2
    omega
theorem Down.leaf {h : List Tm} {i : Nat} (u : Down h i) (hi : h.length ≤ 2 * i + 1) : Heap h := u.done fun d h1 h2 h3 => by
  unfold par at h3
  omega
end Go.Proofs.YtakaadcpaeiccabGreat.Hp
