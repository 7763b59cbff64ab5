import Derived.Test.YtppbdalkfkemgaaW3
import Derived.Test.YtppbdalkfkemgaaL1
namespace Go.Proofs.Ytppbdalkfkemgaa
open Go.RowKit

theorem info_u8 : (Try.prog.info? 5).map (fun i => (i.zero, i.size, i.bytes)) = some (some (.int .u8 0), 1, 1) := by kernel_rfl

/-- Four new bytes in a block of their own, as what is appended. -/
theorem src_b4 (w : World) (n : Int) :
    Src Try.prog 1 27 (.slice (some ⟨w.heap.size, 0, none⟩) 4 4) 4 (U (b4 n)) (w.alloc (.cells #[.int .u8 (n / 16777216), .int .u8 (n / 65536 % 256), .int .u8 (n / 256 % 256), .int .u8 (n % 256)] 5)) := by
  refine Src.ofSlice _ Try.underlying27 _ 4 4 _ rfl ?_ ?_
  · intro j u hj
    have hadd : (⟨w.heap.size, 0, none⟩ : Addr).add j = ⟨w.heap.size, j, none⟩ := by unfold Addr.add; split <;> simp_all
    rw [hadd, World.cell?_alloc_new w]
    rw [← hj]
    simp [U, b4]
  · intro u hu
    simp only [U, b4, List.map_cons, List.map_nil, List.mem_cons, List.not_mem_nil, or_false] at hu
    rcases hu with rfl | rfl | rfl | rfl <;> rfl

set_option maxHeartbeats 1000000 in
theorem appendNumber_any (base : Nat) (v : Value) (n : Int) (xs : List Int) (w : World) (h0 : 0 ≤ n) (h1 : n < 4294967296)
    (hown : w.ownsRow base 5 1 v xs.length (U xs)) (hv : v ≠ .slice none 0 0) (hb : base ≤ w.heap.size) (hlen : xs.length ≤ 1000000) :
    Calls Try.prog 57 #[v, .int .u32 n] w fun e w' => ∃ v', e = .returned v' ∧ w'.ownsRow base 5 1 v' (xs ++ b4 n).length (U (xs ++ b4 n)) ∧ w.grownBy w' v.ownBlock ∧ v' ≠ .slice none 0 0 := by
  obtain ⟨i0, hi, hz0, hz1, hz2⟩ := info_parts info_u8
  have hsrc := src_b4 w n
  go_enter Try.func57, Try.ntmps57
  go_wp2_with (at_builtin; refine wpList_append_own_src _ rfl _ _ 27 27 rfl base 5 i0 (.int .u8 0) 1 1 Try.underlying27 hi hz0 hz1 hz2 rfl v xs.length (U xs) rfl (hown.alloc _) hv _ 4 (U (b4 n)) rfl hsrc ?c1 ?c2 ?c3 ?_)
  case c1 => unfold maxLen; omega
  case c2 => omega
  case c3 => simp; omega
  intro v' w' hown' hgrow hv'
  go_wp2
  go_ret
  refine ⟨v', rfl, ?_, ?_, hv'⟩
  · rw [List.length_append, b4_length, ← U_append]
    exact hown'
  · have hg := World.grownBy_alloc w (.cells #[.int .u8 (n / 16777216), .int .u8 (n / 65536 % 256), .int .u8 (n / 256 % 256), .int .u8 (n % 256)] 5) v.ownBlock
    exact ⟨hgrow.os.trans hg.os, hgrow.tape.trans hg.tape, hgrow.output.trans hg.output, Nat.le_trans hg.size hgrow.size, fun k hk hne => (hgrow.block k (Nat.lt_of_lt_of_le hk hg.size) hne).trans (hg.block k hk hne)⟩
end Go.Proofs.Ytppbdalkfkemgaa
