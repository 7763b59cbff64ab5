import Derived.Test.YtppbdalkfkemgaaN1
namespace Go.Proofs.Ytppbdalkfkemgaa
open Go.RowKit

set_option maxHeartbeats 1000000 in
theorem keys_any (M : Nat) (w : World) :
    Calls Try.prog 69 #[.map (some M)] w fun e w' => e = .returned (.func (.func 102) #[] #[.pointer (some ⟨w.heap.size, 0, none⟩)]) ∧ w' = w.alloc (.cells #[.map (some M)] 120) := by
  go_enter Try.func69, Try.ntmps69
  go_wp2
  go_ret
  exact ⟨rfl, rfl⟩
end Go.Proofs.Ytppbdalkfkemgaa
