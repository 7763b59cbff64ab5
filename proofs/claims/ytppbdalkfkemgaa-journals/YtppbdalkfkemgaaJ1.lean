import Derived.Test.YtppbdalkfkemgaaW4
import Derived.Test.YtppbdalkfkemgaaC1
import Derived.Test.YtppbdalkfkemgaaD1
namespace Go.Proofs.Ytppbdalkfkemgaa
open Go.RowKit

theorem g_odd {c : Nat} (hc : c < 4294967296) (h : (bits .and .u32 (c : Int) 1 == 1) = true) : bits .xor .u32 ((c : Int) / 2) 3988292384 = ((Crc.g c : Nat) : Int) := by
  rw [show (1 : Int) = ((1 : Nat) : Int) from rfl, u32_and_nat c 1 hc (by omega), Nat.and_one_is_mod] at h
  have h1 : c % 2 = 1 := by
    have := beq_iff_eq.1 h
    omega
  rw [show (c : Int) / 2 = ((c / 2 : Nat) : Int) by omega, show (3988292384 : Int) = ((3988292384 : Nat) : Int) from rfl, u32_xor_nat (c / 2) 3988292384 (by omega) (by omega)]
  unfold Crc.g
  rw [if_pos h1]
theorem g_even {c : Nat} (hc : c < 4294967296) (h : (bits .and .u32 (c : Int) 1 == 1) = false) : (c : Int) / 2 = ((Crc.g c : Nat) : Int) := by
  rw [show (1 : Int) = ((1 : Nat) : Int) from rfl, u32_and_nat c 1 hc (by omega), Nat.and_one_is_mod] at h
  have h1 : ¬ c % 2 = 1 := by
    have := beq_eq_false_iff_ne.1 h
    omega
  unfold Crc.g
  rw [if_neg h1]
  omega

set_option maxHeartbeats 1000000 in
theorem sumNumber_any (n : Int) (h0 : 0 ≤ n) (h1 : n ≤ 255) (w : World) :
    Calls Try.prog 98 #[.int .u8 n] w fun e w' => e = .returned (.int .u32 (Crc.tab n.toNat : Nat)) ∧ w' = w := by
  obtain ⟨m, rfl⟩ := Int.eq_ofNat_of_zero_le h0
  go_enter Try.func98, Try.ntmps98
  go_wp2
  go_loop [3, 7] (fun s i => ∃ k : Nat, k ≤ 8 ∧ i = .int .i64 k ∧ s = .int .u32 (Crc.gs k m : Nat)) (fun _ i => 8 - (intOf i).toNat)
  case atStart => exact ⟨0, by omega, rfl, rfl⟩
  case round =>
    obtain ⟨k, hk, rfl, rfl⟩ := hrel
    have hc : Crc.gs k m < 4294967296 := Crc.gs_lt (by omega) k
    by_cases hlt : k < 8
    · go_wp2
      · rename_i h
        have he := g_odd hc h
        go_round
        case rel => exact ⟨k + 1, by omega, by go_num, by rw [he]; rfl⟩
        case measure => simp [intOf]; omega
      · rename_i h
        have he := g_even hc h
        go_round
        case rel => exact ⟨k + 1, by omega, by go_num, by rw [he]; rfl⟩
        case measure => simp [intOf]; omega
    · go_wp2
      go_ret
      obtain rfl : k = 8 := by omega
      exact ⟨rfl, rfl⟩

/-- Bytes as plain numbers. -/
def nats (xs : List Int) : List Nat := xs.map Int.toNat
theorem nats_b {xs : List Int} (h : ∀ x ∈ xs, 0 ≤ x ∧ x ≤ 255) : ∀ x ∈ nats xs, x < 256 := by
  intro x hx
  simp only [nats, List.mem_map] at hx
  obtain ⟨y, hy, rfl⟩ := hx
  have := h y hy
  omega
/-- The SUM of bytes. -/
def crcN (xs : List Int) : Nat := Crc.run (nats xs) 4294967295
def crc (xs : List Int) : Int := 4294967295 - (crcN xs : Int)
theorem crcN_lt {xs : List Int} (h : ∀ x ∈ xs, 0 ≤ x ∧ x ≤ 255) : crcN xs < 4294967296 := Crc.run_lt _ (by omega) (nats_b h)
theorem crc_b {xs : List Int} (h : ∀ x ∈ xs, 0 ≤ x ∧ x ≤ 255) : 0 ≤ crc xs ∧ crc xs < 4294967296 := by
  have := crcN_lt h
  unfold crc
  omega
theorem crcN_snoc (xs : List Int) (x : Int) : crcN (xs ++ [x]) = Crc.step (crcN xs) x.toNat := by
  unfold crcN nats
  rw [List.map_append, Crc.run_append]
  rfl
theorem step_int {s : Nat} {x : Int} (hs : s < 4294967296) (h0 : 0 ≤ x) (h1 : x ≤ 255) :
    bits .xor .u32 ((Crc.tab (bits .xor .u8 ((s : Int) % 256) x).toNat : Nat) : Int) ((s : Int) / 256) = ((Crc.step s x.toNat : Nat) : Int) := by
  obtain ⟨m, rfl⟩ := Int.eq_ofNat_of_zero_le h0
  rw [show (s : Int) % 256 = ((s % 256 : Nat) : Int) by omega, u8_xor_nat (s % 256) m (by omega) (by omega), Int.toNat_natCast,
    show (s : Int) / 256 = ((s / 256 : Nat) : Int) by omega, u32_xor_nat _ _ (Crc.tab_lt (by have := Crc.xor_byte (Nat.mod_lt s (by decide : 0 < 256)) (show m < 256 by omega); omega)) (by omega)]
  rfl
theorem take_snoc (xs : List Int) (k : Nat) {x : Int} (h : xs[k]? = some x) : xs.take (k + 1) = xs.take k ++ [x] := by
  rw [List.take_add_one, h]
  rfl
theorem take_b {xs : List Int} (h : ∀ x ∈ xs, 0 ≤ x ∧ x ≤ 255) (k : Nat) : ∀ x ∈ xs.take k, 0 ≤ x ∧ x ≤ 255 := fun x hx => h x (List.mem_of_mem_take hx)

theorem crc_not {c : Nat} (hc : c < 4294967296) : bits .xor .u32 IntKind.u32.max (c : Int) = 4294967295 - (c : Int) := by
  rw [show IntKind.u32.max = ((4294967295 : Nat) : Int) from rfl, u32_xor_nat 4294967295 c (by omega) hc]
  have h := congrArg BitVec.toNat (BitVec.allOnes_xor (w := 32) (x := BitVec.ofNat 32 c))
  rw [BitVec.toNat_xor, BitVec.toNat_not, BitVec.toNat_ofNat, BitVec.toNat_allOnes, Nat.mod_eq_of_lt hc] at h
  simp only [Nat.reducePow, Nat.add_one_sub_one] at h
  omega

set_option maxHeartbeats 1000000 in
theorem sum_any (v : Value) (xs : List Int) (w : World) (hv : RestV w v xs) :
    Calls Try.prog 65 #[v] w fun e w' => e = .returned (.int .u32 (crc xs)) ∧ w' = w := by
  obtain ⟨a, c, rfl⟩ : ∃ a c, v = .slice a xs.length c := by
    rcases hv.2 with ⟨rfl, rfl⟩ | ⟨b, o, c, rfl, _⟩
    · exact ⟨_, _, rfl⟩
    · exact ⟨_, _, rfl⟩
  have hlen : xs.length ≤ 9223372036854775807 := by
    rcases hv.2 with ⟨_, rfl⟩ | ⟨b, o, c, _, h1, h2, _⟩
    · simp
    · omega
  have hb := hv.1
  go_enter Try.func65, Try.ntmps65
  go_wp2
  go_loop [3, 8] (fun s i => ∃ k : Nat, k ≤ xs.length ∧ i = .int .i64 k ∧ s = .int .u32 (crcN (xs.take k) : Nat)) (fun _ i => xs.length - (intOf i).toNat)
  case atStart => exact ⟨0, by omega, rfl, rfl⟩
  case round =>
    obtain ⟨k, hk, rfl, rfl⟩ := hrel
    have hc := crcN_lt (take_b hb k)
    by_cases hlt : k < xs.length
    · obtain ⟨x, hx⟩ : ∃ x, xs[k]? = some x := ⟨_, List.getElem?_eq_getElem hlt⟩
      obtain ⟨hx0, hx1, b, o, c', he, hcell⟩ := rest_cell hv hx
      simp only [Value.slice.injEq] at he
      obtain ⟨rfl, he1, rfl⟩ := he
      clear he1
      have hst : Hid _ := step_int hc hx0 hx1
      have hsn : Hid _ := crcN_snoc (xs.take k) x
      have hts : Hid _ := take_snoc xs k hx
      have hq : 0 ≤ bits .xor .u8 ((crcN (xs.take k) : Int) % 256) x ∧ bits .xor .u8 ((crcN (xs.take k) : Int) % 256) x ≤ 255 := by
        obtain ⟨m, rfl⟩ := Int.eq_ofNat_of_zero_le hx0
        rw [show (crcN (xs.take k) : Int) % 256 = ((crcN (xs.take k) % 256 : Nat) : Int) by omega, u8_xor_nat _ m (by omega) (by omega)]
        have := Crc.xor_byte (Nat.mod_lt (crcN (xs.take k)) (by decide : 0 < 256)) (show m < 256 by omega)
        omega
      clear hx hv hb
      go_wp2_with (go_at_call 98; refine (sumNumber_any _ hq.1 hq.2 _).mono ?_; rintro e w1 ⟨rfl, rfl⟩)
      go_round
      case rel => exact ⟨k + 1, by omega, by go_num, by rw [hst.out, hts.out, hsn.out]⟩
      case measure => simp [intOf]; omega
    · go_wp2
      go_ret
      obtain rfl : k = xs.length := by omega
      simp only [List.take_length]
      exact ⟨ret_int (crc_not (crcN_lt hb)), trivial⟩
end Go.Proofs.Ytppbdalkfkemgaa
