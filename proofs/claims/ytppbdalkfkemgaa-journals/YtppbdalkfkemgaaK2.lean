import Derived.Test.YtppbdalkfkemgaaK1
import Derived.Test.YtppbdalkfkemgaaJ2
namespace Go.Proofs.Ytppbdalkfkemgaa
open Go.RowKit

theorem str_at (xs : List Int) (h : ∀ x ∈ xs, 0 ≤ x ∧ x ≤ 255) {k : Nat} {x : Int} (hx : xs[k]? = some x) (hk : k < (strOfNums xs).size) : (((strOfNums xs)[k]'hk).toNat : Int) = x := by
  have hb := h x (List.mem_of_getElem? hx)
  have e : (strOfNums xs)[k]'hk = UInt8.ofNat x.toNat := by
    show (strOfNums xs).data[k]'hk = _
    simp only [strOfNums]
    rw [List.getElem_toArray, List.getElem_map]
    have := (List.getElem?_eq_some_iff.1 hx).2
    rw [this]
  rw [e]
  simp only [UInt8.toNat_ofNat']
  omega

theorem sumstep {c : Nat} {x : Int} (hc : c < 4294967296) (h0 : 0 ≤ x) (h1 : x ≤ 255) : bits .xor .u32 (c : Int) x = ((c ^^^ x.toNat : Nat) : Int) := by
  obtain ⟨m, rfl⟩ := Int.eq_ofNat_of_zero_le h0
  rw [u32_xor_nat c m hc (by omega)]
  rfl

set_option maxRecDepth 100000 in
set_option maxHeartbeats 2000000 in
theorem rSum_any (xs : List Int) (h : ∀ x ∈ xs, 0 ≤ x ∧ x ≤ 255) (hn : xs.length ≤ 1000000) (w : World) :
    Calls Try.prog 66 #[.string (strOfNums xs)] w fun e w' => e = .returned (.int .u32 (crc xs)) ∧ w' = w := by
  have hsz := strOfNums_size xs
  have hat := fun {k : Nat} {x : Int} (hx : xs[k]? = some x) (hk : k < (strOfNums xs).size) => str_at xs h hx hk
  have HAT := (show Hid _ from @hat)
  clear hat
  generalize strOfNums xs = s at hsz HAT
  go_enter Try.func66, Try.ntmps66
  go_wp2_with fail
  go_loopw [3, 4] (fun c i wr => ∃ k : Nat, k ≤ xs.length ∧ i = .int .i64 k ∧ c = .int .u32 (crcN (xs.take k) : Nat) ∧ wr = w) (fun _ i _ => xs.length - (intOf i).toNat)
  case atStart => exact ⟨0, Nat.zero_le _, rfl, rfl, rfl⟩
  case round =>
    obtain ⟨k, hk, rfl, rfl, rfl⟩ := hrel
    have hc := crcN_lt (take_b h k)
    by_cases hlt : k < xs.length
    · obtain ⟨x, hx⟩ : ∃ x, xs[k]? = some x := ⟨_, List.getElem?_eq_getElem hlt⟩
      have hxb := h x (List.mem_of_getElem? hx)
      have hks : k < s.size := by omega
      have hki : (k : Int) < (s.size : Int) := by omega
      have hbyte := HAT.out hx hks
      have hxor := sumstep hc hxb.1 hxb.2
      have hsn : Hid (crcN (xs.take (k + 1)) = Crc.gs 8 (crcN (xs.take k) ^^^ x.toNat)) := by
        show _ = _
        rw [take_snoc xs k hx, crcN_snoc, Crc.step_eq]
      generalize crcN (xs.take k) = c at hc hxor hsn
      obtain ⟨c1, hc1⟩ : ∃ c1, c1 = c ^^^ x.toNat := ⟨_, rfl⟩
      rw [← hc1] at hxor hsn
      have hc1l : c1 < 4294967296 := by rw [hc1]; exact Crc.xor_lt hc (by omega)
      clear hc1 hx hsz HAT
      go_wp2_with fail
      go_loopw [3, 5] (fun cv kv wr2 => ∃ q : Nat, q ≤ 8 ∧ kv = .int .i64 q ∧ cv = .int .u32 (Crc.gs q c1 : Nat) ∧ wr2 = wr) (fun _ kv _ => 8 - (intOf kv).toNat)
      case atStart => exact ⟨0, Nat.zero_le _, rfl, rfl, rfl⟩
      case round =>
        obtain ⟨q, hq, rfl, rfl, rfl⟩ := hrel
        have hcq := Crc.gs_lt hc1l q
        by_cases hq8 : q < 8
        · have hd : decide ((q : Int) < 8) = true := decide_eq_true (by omega)
          have hd' : decide (q < 8) = true := decide_eq_true hq8
          have hstep : Hid (Crc.gs (q + 1) c1 = Crc.g (Crc.gs q c1)) := rfl
          generalize Crc.gs q c1 = y at hcq hstep
          cases hp : (bits .and .u32 (y : Int) 1 == 1)
          · have he := g_even hcq hp
            have HE := (show Hid _ from he)
            clear he
            go_wp2
            go_roundw
            case rel => exact ⟨q + 1, by omega, by go_num, by rw [HE.out, hstep.out], by trivial⟩
            case measure => simp [intOf] <;> omega
          · have he := g_odd hcq hp
            have HE := (show Hid _ from he)
            clear he
            go_wp2
            go_roundw
            case rel => exact ⟨q + 1, by omega, by go_num, by rw [HE.out, hstep.out], by trivial⟩
            case measure => simp [intOf] <;> omega
        · obtain rfl : q = 8 := by omega
          have hd : decide ((8 : Int) < 8) = false := by decide
          rw [← hsn.out]
          clear hcq
          go_wp2
          go_roundw
          case rel => exact ⟨k + 1, by omega, by go_num, rfl, by trivial⟩
          case measure => simp [intOf] <;> omega
    · obtain rfl : k = xs.length := by omega
      have hc' := crc_not (crcN_lt h)
      have hd : decide ((xs.length : Int) < (s.size : Int)) = false := decide_eq_false (by omega)
      rw [List.take_length]
      clear hc HAT h
      go_wp2
      go_ret
      exact ⟨rfl, rfl⟩
end Go.Proofs.Ytppbdalkfkemgaa
