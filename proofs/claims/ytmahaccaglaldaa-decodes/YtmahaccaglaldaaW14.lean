import Derived.Test.YtmahaccaglaldaaW13
namespace Go.Proofs.Ytmahaccaglaldaa
open Go.RowKit

/-- The cells of a list of what is lost, behind an address. -/
def HoldsA (w : World) (ao : Option Addr) (L : List (Int × Int)) : Prop :=
  ∀ j, j < L.length → ∃ lb lo d s, ao = some ⟨lb, lo, none⟩ ∧ lb < w.heap.size ∧ L[j]? = some (d, s) ∧ 0 ≤ d ∧ d < 4294967296 ∧ 0 ≤ s ∧ s < 4294967296 ∧
    w.cell? ⟨lb, lo + j * 2, none⟩ = some (.int .u32 d) ∧ w.cell? ⟨lb, lo + j * 2 + 1, none⟩ = some (.int .u32 s)

theorem HoldsA.below {w w' : World} {ao : Option Addr} {L : List (Int × Int)} (h : HoldsA w ao L) (hb : Below w.heap.size w w') : HoldsA w' ao L := by
  intro j hj
  obtain ⟨lb, lo, d, s, h1, h2, h3, h4, h5, h6, h7, h8, h9⟩ := h j hj
  exact ⟨lb, lo, d, s, h1, Nat.lt_of_lt_of_le h2 hb.size, h3, h4, h5, h6, h7, (hb.cell (p := ⟨lb, lo + j * 2, none⟩) h2).trans h8, (hb.cell (p := ⟨lb, lo + j * 2 + 1, none⟩) h2).trans h9⟩

set_option maxHeartbeats 2000000 in
theorem lost_eq (ao bo : Option Addr) (n c1 c2 : Nat) (L : List (Int × Int)) (w : World) (hn : L.length = n) (hn1 : n ≤ 65536) (ha : HoldsA w ao L) (hb : HoldsA w bo L) :
    Calls Try.prog 8 #[.slice ao n c1, .slice bo n c2] w fun e w' => e = .returned (.bool true) ∧ Below w.heap.size w w' := by
  have hn' : Hid (L.length = n) := hn
  clear hn
  go_enter Try.func8, Try.ntmps8
  go_wp2_with fail
  go_loopw [5] (fun i wr => ∃ k : Nat, k ≤ n ∧ i = .int .i64 k ∧ Below w.heap.size w wr) (fun i _ => n - (intOf i).toNat)
  case atStart => exact ⟨0, Nat.zero_le _, rfl, Below.refl _ _⟩
  case round =>
    obtain ⟨k, hk, rfl, hB⟩ := hrel
    by_cases hlt : k < n
    · have hkL : k < L.length := by rw [hn'.out]; exact hlt
      obtain ⟨lb, lo, d, s, rfl, hlb, hds, _, _, _, _, hcd, hcs⟩ := ha k hkL
      obtain ⟨mb, mo, d', s', rfl, hmb, hds', _, _, _, _, hcd', hcs'⟩ := hb k hkL
      have hx := hds.symm.trans hds'
      simp only [Option.some.injEq, Prod.mk.injEq] at hx
      obtain ⟨rfl, rfl⟩ := hx
      have k1 : wr.cell? ⟨lb, lo + k * 2, none⟩ = some (.int .u32 d) := (hB.cell (p := ⟨lb, lo + k * 2, none⟩) hlb).trans hcd
      have k2 : wr.cell? ⟨lb, lo + k * 2 + 1, none⟩ = some (.int .u32 s) := (hB.cell (p := ⟨lb, lo + k * 2 + 1, none⟩) hlb).trans hcs
      have k3 : wr.cell? ⟨mb, mo + k * 2, none⟩ = some (.int .u32 d) := (hB.cell (p := ⟨mb, mo + k * 2, none⟩) hmb).trans hcd'
      have k4 : wr.cell? ⟨mb, mo + k * 2 + 1, none⟩ = some (.int .u32 s) := (hB.cell (p := ⟨mb, mo + k * 2 + 1, none⟩) hmb).trans hcs'
      clear ha hb hds hds' hcd hcs hcd' hcs' hkL
      go_wp2
      go_quiet (fail)
      go_wp2
      go_roundw
      case rel => exact ⟨k + 1, by omega, by go_num, below_drewN hB _⟩
      case measure => simp [intOf]; omega
    · obtain rfl : k = n := by omega
      clear ha hb hk hlt
      go_wp2
      go_ret
      exact ⟨rfl, hB⟩

theorem conv_row (W : World) (base : Nat) (v : Value) (xs : List Int) (h : W.ownsRow base 5 1 v xs.length (U xs)) (hv : v ≠ .slice none 0 0) :
    (convert 27 9 v).run Try.prog W = .ok (.string (strOfNums xs)) W := by
  rcases h.2 with ⟨rfl, _⟩ | ⟨g, cap, cur, rfl, _⟩
  · exact absurd rfl hv
  · refine run_convert_bytes_arg (P := Try.prog) W 27 5 Try.underlying27 Try.underlying5 g 0 xs.length cap xs rfl ?_ 9 Try.underlying9
    intro i hi
    rw [Nat.zero_add]
    rw [h.cellAt i (by simpa using hi)]
    simp [U, hi]
end Go.Proofs.Ytmahaccaglaldaa
