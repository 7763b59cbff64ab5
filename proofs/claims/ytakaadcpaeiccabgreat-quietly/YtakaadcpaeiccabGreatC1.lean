
namespace Go.Proofs.YtakaadcpaeiccabGreat.Crc

/-- One bit of the sum's shift. -/
def g (c : Nat) : Nat := if c % 2 = 1 then (c / 2) ^^^ 3988292384 else c / 2
def gs : Nat → Nat → Nat
  | 0, c => c
  | k + 1, c => g (gs k c)
/-- A number of the table. -/
def tab (i : Nat) : Nat := gs 8 i
/-- One byte of the sum. -/
def step (s x : Nat) : Nat := tab ((s % 256) ^^^ x) ^^^ (s / 256)
def run : List Nat → Nat → Nat
  | [], s => s
  | x :: r, s => run r (step s x)

theorem xor_lt {a b : Nat} (ha : a < 4294967296) (hb : b < 4294967296) : a ^^^ b < 4294967296 := Nat.xor_lt_two_pow (n := 32) ha hb
theorem g_lt {c : Nat} (h : c < 4294967296) : g c < 4294967296 := by
  unfold g
  split
  · exact xor_lt (by omega) (by omega)
  · omega
theorem gs_lt {c : Nat} (h : c < 4294967296) : ∀ k, gs k c < 4294967296
  | 0 => h
  | k + 1 => g_lt (gs_lt h k)
theorem tab_lt {i : Nat} (h : i < 4294967296) : tab i < 4294967296 := gs_lt h 8
theorem xor_byte {a b : Nat} (ha : a < 256) (hb : b < 256) : a ^^^ b < 256 := Nat.xor_lt_two_pow (n := 8) ha hb
theorem step_lt {s x : Nat} (hs : s < 4294967296) (hx : x < 256) : step s x < 4294967296 := by
  unfold step
  have := xor_byte (Nat.mod_lt s (by decide : 0 < 256)) hx
  exact xor_lt (tab_lt (by omega)) (by omega)
theorem run_lt : ∀ (l : List Nat) {s : Nat}, s < 4294967296 → (∀ x ∈ l, x < 256) → run l s < 4294967296
  | [], _, h, _ => h
  | x :: r, _, h, hx => run_lt r (step_lt h (hx x (by simp))) (fun y hy => hx y (by simp [hy]))
theorem run_append : ∀ (a b : List Nat) (s : Nat), run (a ++ b) s = run b (run a s)
  | [], _, _ => rfl
  | x :: a, b, s => run_append a b (step s x)

/-- The top byte of a number of the table tells which number it is. -/
def tops : List Nat := (List.range 256).map fun i => tab i / 16777216
theorem tops_distinct : ∀ i, i < 256 → ∀ j, j < 256 → tab i / 16777216 = tab j / 16777216 → i = j := by
  have h : ∀ i : Fin 256, ∀ j : Fin 256, tab i.val / 16777216 = tab j.val / 16777216 → i = j := by decide +kernel
  intro i hi j hj e
  have := h ⟨i, hi⟩ ⟨j, hj⟩ e
  simpa using this
theorem xor_cancel_right {a b c : Nat} (h : a ^^^ c = b ^^^ c) : a = b := by
  have h' := congrArg (· ^^^ c) h
  simpa [Nat.xor_assoc] using h'
theorem xor_cancel_left {a b c : Nat} (h : c ^^^ a = c ^^^ b) : a = b := by
  rw [Nat.xor_comm c a, Nat.xor_comm c b] at h
  exact xor_cancel_right h
theorem step_top {s x : Nat} (hs : s < 4294967296) : step s x / 16777216 = tab ((s % 256) ^^^ x) / 16777216 := by
  unfold step
  have := Nat.xor_div_two_pow (a := tab ((s % 256) ^^^ x)) (b := s / 256) (n := 24)
  simp only [Nat.reducePow] at this
  rw [this, Nat.div_eq_of_lt (by omega : s / 256 < 16777216), Nat.xor_zero]
/-- The sum loses nothing: neither what it was, nor the byte. -/
theorem step_inj {s s' x x' : Nat} (hs : s < 4294967296) (hs' : s' < 4294967296) (hx : x < 256) (hx' : x' < 256) (h : step s x = step s' x') :
    (s % 256) ^^^ x = (s' % 256) ^^^ x' ∧ s / 256 = s' / 256 := by
  have ht := congrArg (· / 16777216) h
  simp only [step_top hs, step_top hs'] at ht
  have hi := tops_distinct _ (xor_byte (Nat.mod_lt s (by decide)) hx) _ (xor_byte (Nat.mod_lt s' (by decide)) hx') ht
  refine ⟨hi, ?_⟩
  unfold step at h
  rw [hi] at h
  exact xor_cancel_left h
theorem step_inj_state {s s' x : Nat} (hs : s < 4294967296) (hs' : s' < 4294967296) (hx : x < 256) (h : step s x = step s' x) : s = s' := by
  obtain ⟨h1, h2⟩ := step_inj hs hs' hx hx h
  have := xor_cancel_right h1
  omega
theorem step_inj_byte {s x x' : Nat} (hs : s < 4294967296) (hx : x < 256) (hx' : x' < 256) (h : step s x = step s x') : x = x' :=
  xor_cancel_left (step_inj hs hs hx hx' h).1
theorem run_inj : ∀ (l : List Nat) {s s' : Nat}, s < 4294967296 → s' < 4294967296 → (∀ x ∈ l, x < 256) → run l s = run l s' → s = s'
  | [], _, _, _, _, _, h => h
  | x :: r, _, _, hs, hs', hx, h =>
    step_inj_state hs hs' (hx x (by simp)) (run_inj r (step_lt hs (hx x (by simp))) (step_lt hs' (hx x (by simp))) (fun y hy => hx y (by simp [hy])) h)
/-- Another byte gives another sum. -/
theorem run_other {a r : List Nat} {x x' s : Nat} (hs : s < 4294967296) (ha : ∀ y ∈ a, y < 256) (hr : ∀ y ∈ r, y < 256) (hx : x < 256) (hx' : x' < 256) (h : run (a ++ x :: r) s = run (a ++ x' :: r) s) : x = x' := by
  rw [run_append, run_append] at h
  have h1 := run_lt a hs ha
  exact step_inj_byte h1 hx hx' (run_inj r (step_lt h1 hx) (step_lt h1 hx') hr h)
end Go.Proofs.YtakaadcpaeiccabGreat.Crc
