import Derived.Test.YtppbdalkfkemgaaJ1
namespace Go.Proofs.Ytppbdalkfkemgaa
namespace Crc
theorem half_xor (a b : Nat) : (a ^^^ b) / 2 = (a / 2) ^^^ (b / 2) := by
  have h := Nat.shiftRight_xor_distrib (a := a) (b := b) (i := 1)
  simpa [Nat.shiftRight_eq_div_pow] using h
theorem odd_xor (a b : Nat) : (a ^^^ b) % 2 = (a % 2) ^^^ (b % 2) := by
  have h := Nat.xor_mod_two_pow (a := a) (b := b) (n := 1)
  simpa using h
theorem g_xor (a b : Nat) : g (a ^^^ b) = g a ^^^ g b := by
  unfold g
  rw [odd_xor, half_xor]
  rcases Nat.mod_two_eq_zero_or_one a with ha | ha <;> rcases Nat.mod_two_eq_zero_or_one b with hb | hb <;> rw [ha, hb] <;> simp
  · rw [Nat.xor_assoc]
  · rw [Nat.xor_assoc, Nat.xor_assoc, Nat.xor_comm (b / 2)]
  · rw [Nat.xor_assoc (a / 2), Nat.xor_comm 3988292384 ((b / 2) ^^^ 3988292384), Nat.xor_assoc (b / 2), Nat.xor_self, Nat.xor_zero]
theorem gs_xor (k : Nat) : ∀ a b : Nat, gs k (a ^^^ b) = gs k a ^^^ gs k b := by
  induction k with
  | zero => intro a b; rfl
  | succ k ih =>
    intro a b
    show g (gs k (a ^^^ b)) = g (gs k a) ^^^ g (gs k b)
    rw [ih, g_xor]
theorem gs_shift (k : Nat) : ∀ y : Nat, gs k (y * 2 ^ k) = y := by
  induction k with
  | zero => intro y; show y * 1 = y; omega
  | succ k ih =>
    intro y
    show g (gs k (y * 2 ^ (k + 1))) = y
    rw [show y * 2 ^ (k + 1) = (y * 2) * 2 ^ k by rw [Nat.pow_succ, Nat.mul_comm (2 ^ k) 2, Nat.mul_assoc], ih]
    unfold g
    rw [if_neg (by omega)]
    omega
theorem parts (c : Nat) : c = (c % 256) ^^^ (c / 256 * 256) := by
  apply Nat.eq_of_testBit_eq
  intro i
  rw [Nat.testBit_xor, show (256 : Nat) = 2 ^ 8 from rfl, Nat.testBit_mod_two_pow, Nat.mul_comm, Nat.testBit_two_pow_mul, Nat.testBit_div_two_pow]
  by_cases h : i < 8
  · have h8 : ¬ i ≥ 8 := by omega
    simp [h, h8]
  · have h8 : i ≥ 8 := by omega
    rw [show i - 8 + 8 = i by omega]
    simp [h, h8]
theorem step_eq (c x : Nat) : gs 8 (c ^^^ x) = step c x := by
  unfold step tab
  have h := parts c
  have e : c ^^^ x = ((c % 256) ^^^ x) ^^^ (c / 256 * 256) := by
    conv => lhs; rw [h]
    rw [Nat.xor_assoc, Nat.xor_comm (c / 256 * 256) x, ← Nat.xor_assoc]
  rw [e, gs_xor]
  congr 1
  exact gs_shift 8 (c / 256)
end Crc
end Go.Proofs.Ytppbdalkfkemgaa
