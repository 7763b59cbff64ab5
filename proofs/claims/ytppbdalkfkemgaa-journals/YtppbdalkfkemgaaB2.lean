import Derived.Test.YtppbdalkfkemgaaB1
import Derived.Test.YtppbdalkfkemgaaD2
import Derived.Deep.QuietTactic
import Derived.BigQuiet
namespace Go.Proofs.Ytppbdalkfkemgaa
open Go.RowKit

theorem strNums_at (s : ByteArray) (i : Nat) (h : i < s.size) : (strNums s).getD i 0 = (s[i].toNat : Int) := by
  have hl : i < s.data.toList.length := by simpa using h
  have e : (strNums s)[i]? = some (s[i].toNat : Int) := by
    simp only [strNums, List.getElem?_map, List.getElem?_eq_getElem hl, Option.map_some]
    rfl
  simp [List.getD, e]

theorem or4 (a b c d : Int) (ha : 0 ≤ a ∧ a ≤ 255) (hb : 0 ≤ b ∧ b ≤ 255) (hc : 0 ≤ c ∧ c ≤ 255) (hd : 0 ≤ d ∧ d ≤ 255) :
    bits .or .u32 (bits .or .u32 (bits .or .u32 (a % 4294967296 * 16777216 % 4294967296) (b % 4294967296 * 65536 % 4294967296)) (c % 4294967296 * 256 % 4294967296)) (d % 4294967296) = n4 a b c d := by
  rw [show a % 4294967296 * 16777216 % 4294967296 = a * 16777216 by omega, show b % 4294967296 * 65536 % 4294967296 = b * 65536 by omega, show c % 4294967296 * 256 % 4294967296 = c * 256 by omega, show d % 4294967296 = d by omega]
  rw [bits_join .u32 32 (by decide) wraps_u32 24 (a * 16777216) (b * 65536) (by omega) (by omega) (by omega) (by omega) (by omega) (by omega)]
  rw [bits_join .u32 32 (by decide) wraps_u32 16 (a * 16777216 + b * 65536) (c * 256) (by omega) (by omega) (by omega) (by omega) (by omega) (by omega)]
  rw [bits_join .u32 32 (by decide) wraps_u32 8 (a * 16777216 + b * 65536 + c * 256) d (by omega) (by omega) (by omega) (by omega) (by omega) (by omega)]
  rfl

theorem byte_b (b : UInt8) : (0 : Int) ≤ (b.toNat : Int) ∧ (b.toNat : Int) ≤ 255 := by
  have := b.toNat_lt
  omega

/-- The number of four bytes of a string. -/
def n4t (s : ByteArray) : Int := n4 ((strNums s).getD 0 0) ((strNums s).getD 1 0) ((strNums s).getD 2 0) ((strNums s).getD 3 0)
set_option maxRecDepth 100000 in
set_option maxHeartbeats 1000000 in
theorem refnum_q (s : ByteArray) (h : 4 ≤ s.size) (w : World) :
    Calls Try.prog 64 #[.string s] w fun e w' => e = .returned (.int .u32 (n4t s)) ∧ ∃ q, w' = w.drewN q := by
  have h0 : (0 : Int) < (s.size : Int) := by omega
  have h1 : (1 : Int) < (s.size : Int) := by omega
  have h2 : (2 : Int) < (s.size : Int) := by omega
  have h3 : (3 : Int) < (s.size : Int) := by omega
  have g0 : 0 < s.size := by omega
  have g1 : 1 < s.size := by omega
  have g2 : 2 < s.size := by omega
  have g3 : 3 < s.size := by omega
  go_enter Try.func64, Try.ntmps64
  go_wp2
  go_quiet (fail)
  go_wp2
  go_ret
  refine ⟨?_, _, rfl⟩
  refine ret_int ?_
  rw [or4 _ _ _ _ (byte_b _) (byte_b _) (byte_b _) (byte_b _)]
  unfold n4t
  rw [strNums_at s _ g0, strNums_at s _ g1, strNums_at s _ g2, strNums_at s _ g3]
end Go.Proofs.Ytppbdalkfkemgaa
