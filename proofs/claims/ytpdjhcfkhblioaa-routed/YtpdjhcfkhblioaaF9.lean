import Derived.Test.YtpdjhcfkhblioaaF6
import Derived.Test.YtpdjhcfkhblioaaH3
import Derived.Test.YtpdjhcfkhblioaaGE
namespace Go.Proofs.Ytpdjhcfkhblioaa
open Go.RowKit Go.Maps

set_option maxRecDepth 100000 in
set_option maxHeartbeats 2000000 in
theorem rUpdate_own {me : Int} {T : Nat} {v : Value} {L : List (Rt × Value)} {w : World} (hM : RM me T v L w) (d s h n e : Int) (hown : d = me ∨ d = 0) :
    Calls Try.prog 35 #[.pointer (some ⟨T, 0, none⟩), .int .u32 d, .int .u32 s, .int .i64 h, .int .u32 n, .int .u64 e] w fun r w' => r = .returned (.int .i64 2) ∧ w' = w := by
  obtain ⟨t0, t1⟩ := hM.cell
  clear hM
  by_cases hd : d = me
  · have q1 : (d == me) = true := by simpa using hd
    clear hown hd
    go_enter Try.func35, Try.ntmps35
    go_wp2
    go_ret
    exact ⟨rfl, rfl⟩
  · have q1 : (d == me) = false := by simpa using hd
    have q2 : (d == 0) = true := by simpa using hown.resolve_left hd
    clear hown hd
    go_enter Try.func35, Try.ntmps35
    go_wp2
    go_ret
    exact ⟨rfl, rfl⟩

set_option maxRecDepth 100000 in
set_option maxHeartbeats 4000000 in
theorem rUpdate_full {me : Int} {T : Nat} {v : Value} {L : List (Rt × Value)} {w : World} (hM0 : RM me T v L w) (d s h n e : Int) (hd : ¬ d = me) (hd0 : ¬ d = 0) (hl : lineOf (L.map (·.1)) d = none) (h8 : 8 ≤ L.length) :
    Calls Try.prog 35 #[.pointer (some ⟨T, 0, none⟩), .int .u32 d, .int .u32 s, .int .i64 h, .int .u32 n, .int .u64 e] w fun r w' => r = .returned (.int .i64 4) ∧ Below w.heap.size w w' := by
  have q1 : (d == me) = false := by simpa using hd
  have q2 : (d == 0) = false := by simpa using hd0
  have hb : Below w.heap.size w (w.alloc (rtBox (newR d s h n e) (.slice none 0 0))) := (Below.refl _ _).alloc (Nat.le_refl _) _
  have hM := hM0.later hb
  have HL := line_any hM d
  rw [hl] at HL
  have HLh := (show Hid _ from HL)
  obtain ⟨vo, vc, rfl⟩ := hM.slice
  obtain ⟨t0', t1'⟩ := hM0.cell
  obtain ⟨t0, t1⟩ := hM.cell
  have hlen := hM.len
  have h8i : decide ((8 : Int) ≤ (L.length : Int)) = true := decide_eq_true (by omega)
  have h8n : decide (8 ≤ L.length) = true := decide_eq_true h8
  have hbh := (show Hid _ from hb)
  dsimp only [rtBox, newR] at HLh t0 t1 hbh
  clear HL hM hM0 hd hd0 hl hb
  go_enter Try.func35, Try.ntmps35
  go_wp2_with fail
  refine Calls.mono HLh.out ?_
  rintro r w1 ⟨rfl, q, rfl⟩
  clear HLh
  simp only [Option.isSome_none]
  go_wp2
  go_ret
  exact ⟨rfl, below_drewN hbh.out q⟩
end Go.Proofs.Ytpdjhcfkhblioaa
