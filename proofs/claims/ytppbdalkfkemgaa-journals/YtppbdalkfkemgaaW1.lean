import Derived.Test.YtppbdalkfkemgaaProg
import Derived.Test.YtppbdalkfkemgaaS1
import Derived.WalkKit
import Derived.WalkSpells
import Derived.WalkLawsBesides
import Derived.Handy
import Derived.Deep.Light
namespace Go.Proofs.Ytppbdalkfkemgaa
open Go.RowKit

theorem ret_bool {a b : Bool} (h : a = b) : Ending.returned (.bool a) = .returned (.bool b) := by rw [h]
theorem ret_int {k : IntKind} {a b : Int} (h : a = b) : Ending.returned (.int k a) = .returned (.int k b) := by rw [h]

theorem conv_new (w : World) (xs : List Int) :
    (convert 27 9 (.slice (some ⟨w.heap.size, 0, none⟩) xs.length xs.length)).run Try.prog (w.alloc (.cells (xs.map (Value.int .u8)).toArray 5)) =
      .ok (.string (strOfNums xs)) (w.alloc (.cells (xs.map (Value.int .u8)).toArray 5)) := by
  refine run_convert_bytes_arg (P := Try.prog) _ 27 5 Try.underlying27 Try.underlying5 w.heap.size 0 xs.length xs.length xs rfl ?_ 9 Try.underlying9
  intro i hi
  have := World.cell?_alloc_new w (xs.map (Value.int .u8)).toArray 5 (0 + i)
  rw [this]
  simp [hi]

set_option maxHeartbeats 400000 in
theorem byteOf_any (n : Int) (w : World) (h0 : 0 ≤ n) (h1 : n ≤ 255) :
    Calls Try.prog 60 #[.int .i64 n] w fun e w' => e = .returned (.string (strOfNums [n])) ∧ Below w.heap.size w w' := by
  have hcv := conv_new w [n]
  simp only [List.length_cons, List.length_nil, List.map_cons, List.map_nil, Nat.zero_add] at hcv
  go_enter Try.func60, Try.ntmps60
  go_wp2
  go_ret
  exact ⟨rfl, (Below.refl _ _).alloc (Nat.le_refl _) _⟩

set_option maxHeartbeats 400000 in
theorem four_any (n : Int) (w : World) (h0 : 0 ≤ n) (h1 : n < 4294967296) :
    Calls Try.prog 61 #[.int .u32 n] w fun e w' => e = .returned (.string (strOfNums [n / 16777216, n / 65536 % 256, n / 256 % 256, n % 256])) ∧ Below w.heap.size w w' := by
  have hcv := conv_new w [n / 16777216, n / 65536 % 256, n / 256 % 256, n % 256]
  simp only [List.length_cons, List.length_nil, List.map_cons, List.map_nil, Nat.zero_add, Nat.reduceAdd] at hcv
  go_enter Try.func61, Try.ntmps61
  go_wp2
  go_ret
  exact ⟨rfl, (Below.refl _ _).alloc (Nat.le_refl _) _⟩

set_option maxHeartbeats 400000 in
theorem fits_any (k c : Int) (w : World) :
    Calls Try.prog 90 #[.int .i64 k, .int .i64 c] w fun e w' => e = .returned (.bool (fitsB k c)) ∧ w' = w := by
  go_enter Try.func90, Try.ntmps90
  go_wp2
  all_goals (go_ret; go_light; refine ⟨ret_bool ?_, rfl⟩; simp_all [fitsB]; try omega)

set_option maxHeartbeats 400000 in
theorem flags_any (p : Pkt) (w : World) :
    Calls Try.prog 54 #[p.val] w fun e w' => e = .returned (.int .u8 (if p.unk then 8 else 0)) ∧ Below w.heap.size w w' := by
  go_enter Try.func54, Try.ntmps54
  go_wp2
  all_goals (go_ret; refine ⟨?_, (Below.refl _ _).alloc (Nat.le_refl _) _⟩; simp [*])

set_option maxHeartbeats 400000 in
theorem count_any (p : Pkt) (w : World) :
    Calls Try.prog 55 #[p.val] w fun e w' => e = .returned (.int .i64 p.cnt) ∧ Below w.heap.size w w' := by
  go_enter Try.func55, Try.ntmps55
  go_wp2
  all_goals (go_ret; go_light; refine ⟨ret_int ?_, (Below.refl _ _).alloc (Nat.le_refl _) _⟩; simp_all [Pkt.cnt])

set_option maxHeartbeats 400000 in
theorem isBlank_any (p : Pkt) (hp : p.Wf) (w : World) :
    Calls Try.prog 91 #[p.val] w fun e w' => e = .returned (.bool p.blankB) ∧ Below w.heap.size w w' := by
  obtain ⟨_, _, _, _, _, _, i0, i1, d0, d1, s0, s1, f0, f1, fs0, fs1, l0, l1, _, _⟩ := hp
  go_enter Try.func91, Try.ntmps91
  go_wp2
  all_goals (go_ret; go_light; refine ⟨ret_bool ?_, (Below.refl _ _).alloc (Nat.le_refl _) _⟩)
  all_goals (have h := or6_z i0 i1 d0 d1 s0 s1 f0 f1 fs0 fs1 l0 l1; simp_all [Pkt.blankB, emptyB])
  all_goals trace_state
end Go.Proofs.Ytppbdalkfkemgaa
