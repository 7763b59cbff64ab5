import Derived.Test.YtmahaccaglaldaaD4
import Derived.Test.YtmahaccaglaldaaD5a
import Derived.Test.YtmahaccaglaldaaD5b
import Derived.Test.YtmahaccaglaldaaD5c
import Derived.Test.YtmahaccaglaldaaD5d
import Derived.Test.YtmahaccaglaldaaD5e
import Derived.Test.YtmahaccaglaldaaD5f
import Derived.Test.YtmahaccaglaldaaD5g
import Derived.Test.YtmahaccaglaldaaD5h
import Derived.Test.YtmahaccaglaldaaD5i
import Derived.Test.YtmahaccaglaldaaD5j
namespace Go.Proofs.Ytmahaccaglaldaa
open Go.RowKit

theorem isF_flag {a b c : Int} {r : List Int} (h0 : (c == 0) = false) (h8 : (c == 8) = false) : isF (a :: b :: c :: r) = false := by
  match r with
  | [] => rfl
  | [_] => rfl
  | z :: n :: r => simp_all [isF]
theorem isF_zero {a b c z : Int} {r : List Int} (h0 : (z == 0) = false) : isF (a :: b :: c :: z :: r) = false := by
  match r with
  | [] => rfl
  | n :: r => simp_all [isF]

set_option maxRecDepth 100000 in
set_option maxHeartbeats 4000000 in
theorem packet_s0 (R : Nat) (W : World) (hr : Rd R [] W) :
    Calls Try.prog 23 #[.pointer (some ⟨R, 0, none⟩)] W fun e w' => PacketP R [] W e w' := by
  have hR := hr.lt
  go_enter Try.func23, Try.ntmps23
  go_wp2_with fail
  have h1 := hr.alloc Pkt.zero.box
  have hW0 := World.grownBy_alloc W Pkt.zero.box (some R)
  dsimp only [Pkt.box, Pkt.zero] at h1 hW0
  clear hr
  refine (one_nil R _ h1).mono ?_
  rintro e w9 ⟨rfl, rfl⟩
  exact ⟨rfl, hW0, .inr ⟨rfl, rfl⟩⟩

set_option maxRecDepth 100000 in
set_option maxHeartbeats 4000000 in
theorem packet_s1 (R : Nat) (a : Int) (W : World) (hr : Rd R [a] W) :
    Calls Try.prog 23 #[.pointer (some ⟨R, 0, none⟩)] W fun e w' => PacketP R [a] W e w' := by
  have hR := hr.lt
  go_enter Try.func23, Try.ntmps23
  go_wp2_with fail
  have h1 := hr.alloc Pkt.zero.box
  have hW0 := World.grownBy_alloc W Pkt.zero.box (some R)
  dsimp only [Pkt.box, Pkt.zero] at h1 hW0
  clear hr
  refine (one_cons R _ _ _ h1).mono ?_
  rintro e w1 ⟨rfl, hr1, hg1⟩
  have hW1 := grown_trans hW0 hg1
  clear h1 hg1 hW0
  go_wp2_with fail
  refine (one_nil R _ hr1).mono ?_
  rintro e w9 ⟨rfl, rfl⟩
  exact ⟨rfl, hW1, .inr ⟨rfl, rfl⟩⟩

set_option maxRecDepth 100000 in
set_option maxHeartbeats 4000000 in
theorem packet_s2 (R : Nat) (a b : Int) (W : World) (hr : Rd R [a, b] W) :
    Calls Try.prog 23 #[.pointer (some ⟨R, 0, none⟩)] W fun e w' => PacketP R [a, b] W e w' := by
  have hR := hr.lt
  go_enter Try.func23, Try.ntmps23
  go_wp2_with fail
  have h1 := hr.alloc Pkt.zero.box
  have hW0 := World.grownBy_alloc W Pkt.zero.box (some R)
  dsimp only [Pkt.box, Pkt.zero] at h1 hW0
  clear hr
  refine (one_cons R _ _ _ h1).mono ?_
  rintro e w1 ⟨rfl, hr1, hg1⟩
  have hW1 := grown_trans hW0 hg1
  clear h1 hg1 hW0
  go_wp2_with fail
  refine (one_cons R _ _ _ hr1).mono ?_
  rintro e w2 ⟨rfl, hr2, hg2⟩
  have hW2 := grown_trans hW1 hg2
  clear hr1 hg2 hW1
  go_wp2_with fail
  have hB := PB.new ⟨a, b, 0, false, 0, 0, 0, 0, 0, 0, none, 0, 0, ⟨#[]⟩⟩ w2
  have hr3 := hr2.alloc (Pkt.box ⟨a, b, 0, false, 0, 0, 0, 0, 0, 0, none, 0, 0, ⟨#[]⟩⟩)
  have hW3 := grown_trans hW2 (World.grownBy_alloc w2 (Pkt.box ⟨a, b, 0, false, 0, 0, 0, 0, 0, 0, none, 0, 0, ⟨#[]⟩⟩) (some R))
  have hRB := hr2.lt
  have hWs := hW2.size
  generalize hBB : w2.heap.size = B at hB hRB hWs ⊢
  clear hBB
  dsimp only [Pkt.box] at hB hr3 hW3
  clear hr2 hW2
  refine (one_nil R _ hr3).mono ?_
  rintro e w9 ⟨rfl, rfl⟩
  exact ⟨rfl, hW3, .inr ⟨rfl, rfl⟩⟩

set_option maxRecDepth 100000 in
set_option maxHeartbeats 4000000 in
theorem packet_sf (R : Nat) (a b c : Int) (r : List Int) (hc0 : (c == 0) = false) (hc8 : (c == 8) = false) (W : World) (hr : Rd R (a :: b :: c :: r) W) :
    Calls Try.prog 23 #[.pointer (some ⟨R, 0, none⟩)] W fun e w' => PacketP R (a :: b :: c :: r) W e w' := by
  have hR := hr.lt
  go_enter Try.func23, Try.ntmps23
  go_wp2_with fail
  have h1 := hr.alloc Pkt.zero.box
  have hW0 := World.grownBy_alloc W Pkt.zero.box (some R)
  dsimp only [Pkt.box, Pkt.zero] at h1 hW0
  clear hr
  refine (one_cons R _ _ _ h1).mono ?_
  rintro e w1 ⟨rfl, hr1, hg1⟩
  have hW1 := grown_trans hW0 hg1
  clear h1 hg1 hW0
  go_wp2_with fail
  refine (one_cons R _ _ _ hr1).mono ?_
  rintro e w2 ⟨rfl, hr2, hg2⟩
  have hW2 := grown_trans hW1 hg2
  clear hr1 hg2 hW1
  go_wp2_with fail
  have hB := PB.new ⟨a, b, 0, false, 0, 0, 0, 0, 0, 0, none, 0, 0, ⟨#[]⟩⟩ w2
  have hr3 := hr2.alloc (Pkt.box ⟨a, b, 0, false, 0, 0, 0, 0, 0, 0, none, 0, 0, ⟨#[]⟩⟩)
  have hW3 := grown_trans hW2 (World.grownBy_alloc w2 (Pkt.box ⟨a, b, 0, false, 0, 0, 0, 0, 0, 0, none, 0, 0, ⟨#[]⟩⟩) (some R))
  have hRB := hr2.lt
  have hWs := hW2.size
  generalize hBB : w2.heap.size = B at hB hRB hWs ⊢
  clear hBB
  dsimp only [Pkt.box] at hB hr3 hW3
  clear hr2 hW2
  refine (one_cons R _ _ _ hr3).mono ?_
  rintro e w4 ⟨rfl, hr4, hg4⟩
  have hB4 := hB.grown hg4 (by omega)
  have hW4 := grown_trans hW3 hg4
  clear hr3 hg4 hB hW3
  go_wp2_with (go_at_call 29; refine (require_no _).mono ?_; rintro e w9 ⟨rfl, hww⟩; rw [hww])
  exact ⟨rfl, hW4, .inr ⟨isF_flag hc0 hc8, rfl⟩⟩

end Go.Proofs.Ytmahaccaglaldaa

namespace Go.Proofs.Ytmahaccaglaldaa
open Go.RowKit

set_option maxRecDepth 100000 in
set_option maxHeartbeats 4000000 in
theorem packet_s3f (R : Nat) (a b : Int) (W : World) (hr : Rd R [a, b, 0] W) :
    Calls Try.prog 23 #[.pointer (some ⟨R, 0, none⟩)] W fun e w' => PacketP R [a, b, 0] W e w' := by
  have hR := hr.lt
  go_enter Try.func23, Try.ntmps23
  go_wp2_with fail
  have h1 := hr.alloc Pkt.zero.box
  have hW0 := World.grownBy_alloc W Pkt.zero.box (some R)
  dsimp only [Pkt.box, Pkt.zero] at h1 hW0
  clear hr
  refine (one_cons R _ _ _ h1).mono ?_
  rintro e w1 ⟨rfl, hr1, hg1⟩
  have hW1 := grown_trans hW0 hg1
  clear h1 hg1 hW0
  go_wp2_with fail
  refine (one_cons R _ _ _ hr1).mono ?_
  rintro e w2 ⟨rfl, hr2, hg2⟩
  have hW2 := grown_trans hW1 hg2
  clear hr1 hg2 hW1
  go_wp2_with fail
  have hB := PB.new ⟨a, b, 0, false, 0, 0, 0, 0, 0, 0, none, 0, 0, ⟨#[]⟩⟩ w2
  have hr3 := hr2.alloc (Pkt.box ⟨a, b, 0, false, 0, 0, 0, 0, 0, 0, none, 0, 0, ⟨#[]⟩⟩)
  have hW3 := grown_trans hW2 (World.grownBy_alloc w2 (Pkt.box ⟨a, b, 0, false, 0, 0, 0, 0, 0, 0, none, 0, 0, ⟨#[]⟩⟩) (some R))
  have hRB := hr2.lt
  have hWs := hW2.size
  generalize hBB : w2.heap.size = B at hB hRB hWs ⊢
  clear hBB
  dsimp only [Pkt.box] at hB hr3 hW3
  clear hr2 hW2
  refine (one_cons R _ _ _ hr3).mono ?_
  rintro e w4 ⟨rfl, hr4, hg4⟩
  have hB4 := hB.grown hg4 (by omega)
  have hW4 := grown_trans hW3 hg4
  clear hr3 hg4 hB hW3
  go_wp2_with (go_at_call 29; refine (require_ok _).mono ?_; rintro e w4 ⟨rfl, rfl⟩; obtain ⟨_, _, _, c3, _, _, _, _, _, _, _, _⟩ := hB4.cell; have f3 := hB4.free 3)
  have hr5 := hr4.setCell (B := B) (by omega) (i := 3) (.bool false) (.bool false) (by simp) c3
  have hW5 := grown_new hW4 (a := ⟨B, 3, none⟩) (by simp; omega) (.bool false)
  clear c3 f3 hr4 hB4 hW4
  generalize w4.setCell _ _ = w5 at hr5 hW5 ⊢
  refine (one_nil R _ hr5).mono ?_
  rintro e w9 ⟨rfl, rfl⟩
  exact ⟨rfl, hW5, .inr ⟨rfl, rfl⟩⟩

set_option maxRecDepth 100000 in
set_option maxHeartbeats 4000000 in
theorem packet_szf (R : Nat) (a b z : Int) (r : List Int) (hz : (z == 0) = false) (W : World) (hr : Rd R (a :: b :: 0 :: z :: r) W) :
    Calls Try.prog 23 #[.pointer (some ⟨R, 0, none⟩)] W fun e w' => PacketP R (a :: b :: 0 :: z :: r) W e w' := by
  have hR := hr.lt
  go_enter Try.func23, Try.ntmps23
  go_wp2_with fail
  have h1 := hr.alloc Pkt.zero.box
  have hW0 := World.grownBy_alloc W Pkt.zero.box (some R)
  dsimp only [Pkt.box, Pkt.zero] at h1 hW0
  clear hr
  refine (one_cons R _ _ _ h1).mono ?_
  rintro e w1 ⟨rfl, hr1, hg1⟩
  have hW1 := grown_trans hW0 hg1
  clear h1 hg1 hW0
  go_wp2_with fail
  refine (one_cons R _ _ _ hr1).mono ?_
  rintro e w2 ⟨rfl, hr2, hg2⟩
  have hW2 := grown_trans hW1 hg2
  clear hr1 hg2 hW1
  go_wp2_with fail
  have hB := PB.new ⟨a, b, 0, false, 0, 0, 0, 0, 0, 0, none, 0, 0, ⟨#[]⟩⟩ w2
  have hr3 := hr2.alloc (Pkt.box ⟨a, b, 0, false, 0, 0, 0, 0, 0, 0, none, 0, 0, ⟨#[]⟩⟩)
  have hW3 := grown_trans hW2 (World.grownBy_alloc w2 (Pkt.box ⟨a, b, 0, false, 0, 0, 0, 0, 0, 0, none, 0, 0, ⟨#[]⟩⟩) (some R))
  have hRB := hr2.lt
  have hWs := hW2.size
  generalize hBB : w2.heap.size = B at hB hRB hWs ⊢
  clear hBB
  dsimp only [Pkt.box] at hB hr3 hW3
  clear hr2 hW2
  refine (one_cons R _ _ _ hr3).mono ?_
  rintro e w4 ⟨rfl, hr4, hg4⟩
  have hB4 := hB.grown hg4 (by omega)
  have hW4 := grown_trans hW3 hg4
  clear hr3 hg4 hB hW3
  go_wp2_with (go_at_call 29; refine (require_ok _).mono ?_; rintro e w4 ⟨rfl, rfl⟩; obtain ⟨_, _, _, c3, _, _, _, _, _, _, _, _⟩ := hB4.cell; have f3 := hB4.free 3)
  have hr5 := hr4.setCell (B := B) (by omega) (i := 3) (.bool false) (.bool false) (by simp) c3
  have hW5 := grown_new hW4 (a := ⟨B, 3, none⟩) (by simp; omega) (.bool false)
  clear c3 f3 hr4 hB4 hW4
  generalize w4.setCell _ _ = w5 at hr5 hW5 ⊢
  refine (one_cons R _ _ _ hr5).mono ?_
  rintro e w6 ⟨rfl, hr6, hg6⟩
  have hW6 := grown_trans hW5 hg6
  clear hr5 hg6 hW5
  go_wp2_with (go_at_call 29; refine (require_no _).mono ?_; rintro e w9 ⟨rfl, hww⟩; rw [hww])
  exact ⟨rfl, hW6, .inr ⟨isF_zero hz, rfl⟩⟩

set_option maxRecDepth 100000 in
set_option maxHeartbeats 4000000 in
theorem packet_s4f (R : Nat) (a b : Int) (W : World) (hr : Rd R [a, b, 0, 0] W) :
    Calls Try.prog 23 #[.pointer (some ⟨R, 0, none⟩)] W fun e w' => PacketP R [a, b, 0, 0] W e w' := by
  have hR := hr.lt
  go_enter Try.func23, Try.ntmps23
  go_wp2_with fail
  have h1 := hr.alloc Pkt.zero.box
  have hW0 := World.grownBy_alloc W Pkt.zero.box (some R)
  dsimp only [Pkt.box, Pkt.zero] at h1 hW0
  clear hr
  refine (one_cons R _ _ _ h1).mono ?_
  rintro e w1 ⟨rfl, hr1, hg1⟩
  have hW1 := grown_trans hW0 hg1
  clear h1 hg1 hW0
  go_wp2_with fail
  refine (one_cons R _ _ _ hr1).mono ?_
  rintro e w2 ⟨rfl, hr2, hg2⟩
  have hW2 := grown_trans hW1 hg2
  clear hr1 hg2 hW1
  go_wp2_with fail
  have hB := PB.new ⟨a, b, 0, false, 0, 0, 0, 0, 0, 0, none, 0, 0, ⟨#[]⟩⟩ w2
  have hr3 := hr2.alloc (Pkt.box ⟨a, b, 0, false, 0, 0, 0, 0, 0, 0, none, 0, 0, ⟨#[]⟩⟩)
  have hW3 := grown_trans hW2 (World.grownBy_alloc w2 (Pkt.box ⟨a, b, 0, false, 0, 0, 0, 0, 0, 0, none, 0, 0, ⟨#[]⟩⟩) (some R))
  have hRB := hr2.lt
  have hWs := hW2.size
  generalize hBB : w2.heap.size = B at hB hRB hWs ⊢
  clear hBB
  dsimp only [Pkt.box] at hB hr3 hW3
  clear hr2 hW2
  refine (one_cons R _ _ _ hr3).mono ?_
  rintro e w4 ⟨rfl, hr4, hg4⟩
  have hB4 := hB.grown hg4 (by omega)
  have hW4 := grown_trans hW3 hg4
  clear hr3 hg4 hB hW3
  go_wp2_with (go_at_call 29; refine (require_ok _).mono ?_; rintro e w4 ⟨rfl, rfl⟩; obtain ⟨_, _, _, c3, _, _, _, _, _, _, _, _⟩ := hB4.cell; have f3 := hB4.free 3)
  have hr5 := hr4.setCell (B := B) (by omega) (i := 3) (.bool false) (.bool false) (by simp) c3
  have hW5 := grown_new hW4 (a := ⟨B, 3, none⟩) (by simp; omega) (.bool false)
  clear c3 f3 hr4 hB4 hW4
  generalize w4.setCell _ _ = w5 at hr5 hW5 ⊢
  refine (one_cons R _ _ _ hr5).mono ?_
  rintro e w6 ⟨rfl, hr6, hg6⟩
  have hW6 := grown_trans hW5 hg6
  clear hr5 hg6 hW5
  go_wp2_with (go_at_call 29; refine (require_ok _).mono ?_; rintro e w6 ⟨rfl, rfl⟩)
  refine (one_nil R _ hr6).mono ?_
  rintro e w9 ⟨rfl, rfl⟩
  exact ⟨rfl, hW6, .inr ⟨rfl, rfl⟩⟩

set_option maxRecDepth 100000 in
set_option maxHeartbeats 4000000 in
theorem packet_s3t (R : Nat) (a b : Int) (W : World) (hr : Rd R [a, b, 8] W) :
    Calls Try.prog 23 #[.pointer (some ⟨R, 0, none⟩)] W fun e w' => PacketP R [a, b, 8] W e w' := by
  have hR := hr.lt
  go_enter Try.func23, Try.ntmps23
  go_wp2_with fail
  have h1 := hr.alloc Pkt.zero.box
  have hW0 := World.grownBy_alloc W Pkt.zero.box (some R)
  dsimp only [Pkt.box, Pkt.zero] at h1 hW0
  clear hr
  refine (one_cons R _ _ _ h1).mono ?_
  rintro e w1 ⟨rfl, hr1, hg1⟩
  have hW1 := grown_trans hW0 hg1
  clear h1 hg1 hW0
  go_wp2_with fail
  refine (one_cons R _ _ _ hr1).mono ?_
  rintro e w2 ⟨rfl, hr2, hg2⟩
  have hW2 := grown_trans hW1 hg2
  clear hr1 hg2 hW1
  go_wp2_with fail
  have hB := PB.new ⟨a, b, 0, false, 0, 0, 0, 0, 0, 0, none, 0, 0, ⟨#[]⟩⟩ w2
  have hr3 := hr2.alloc (Pkt.box ⟨a, b, 0, false, 0, 0, 0, 0, 0, 0, none, 0, 0, ⟨#[]⟩⟩)
  have hW3 := grown_trans hW2 (World.grownBy_alloc w2 (Pkt.box ⟨a, b, 0, false, 0, 0, 0, 0, 0, 0, none, 0, 0, ⟨#[]⟩⟩) (some R))
  have hRB := hr2.lt
  have hWs := hW2.size
  generalize hBB : w2.heap.size = B at hB hRB hWs ⊢
  clear hBB
  dsimp only [Pkt.box] at hB hr3 hW3
  clear hr2 hW2
  refine (one_cons R _ _ _ hr3).mono ?_
  rintro e w4 ⟨rfl, hr4, hg4⟩
  have hB4 := hB.grown hg4 (by omega)
  have hW4 := grown_trans hW3 hg4
  clear hr3 hg4 hB hW3
  go_wp2_with (go_at_call 29; refine (require_ok _).mono ?_; rintro e w4 ⟨rfl, rfl⟩; obtain ⟨_, _, _, c3, _, _, _, _, _, _, _, _⟩ := hB4.cell; have f3 := hB4.free 3)
  have hr5 := hr4.setCell (B := B) (by omega) (i := 3) (.bool false) (.bool true) (by simp) c3
  have hW5 := grown_new hW4 (a := ⟨B, 3, none⟩) (by simp; omega) (.bool true)
  clear c3 f3 hr4 hB4 hW4
  generalize w4.setCell _ _ = w5 at hr5 hW5 ⊢
  refine (one_nil R _ hr5).mono ?_
  rintro e w9 ⟨rfl, rfl⟩
  exact ⟨rfl, hW5, .inr ⟨rfl, rfl⟩⟩

set_option maxRecDepth 100000 in
set_option maxHeartbeats 4000000 in
theorem packet_szt (R : Nat) (a b z : Int) (r : List Int) (hz : (z == 0) = false) (W : World) (hr : Rd R (a :: b :: 8 :: z :: r) W) :
    Calls Try.prog 23 #[.pointer (some ⟨R, 0, none⟩)] W fun e w' => PacketP R (a :: b :: 8 :: z :: r) W e w' := by
  have hR := hr.lt
  go_enter Try.func23, Try.ntmps23
  go_wp2_with fail
  have h1 := hr.alloc Pkt.zero.box
  have hW0 := World.grownBy_alloc W Pkt.zero.box (some R)
  dsimp only [Pkt.box, Pkt.zero] at h1 hW0
  clear hr
  refine (one_cons R _ _ _ h1).mono ?_
  rintro e w1 ⟨rfl, hr1, hg1⟩
  have hW1 := grown_trans hW0 hg1
  clear h1 hg1 hW0
  go_wp2_with fail
  refine (one_cons R _ _ _ hr1).mono ?_
  rintro e w2 ⟨rfl, hr2, hg2⟩
  have hW2 := grown_trans hW1 hg2
  clear hr1 hg2 hW1
  go_wp2_with fail
  have hB := PB.new ⟨a, b, 0, false, 0, 0, 0, 0, 0, 0, none, 0, 0, ⟨#[]⟩⟩ w2
  have hr3 := hr2.alloc (Pkt.box ⟨a, b, 0, false, 0, 0, 0, 0, 0, 0, none, 0, 0, ⟨#[]⟩⟩)
  have hW3 := grown_trans hW2 (World.grownBy_alloc w2 (Pkt.box ⟨a, b, 0, false, 0, 0, 0, 0, 0, 0, none, 0, 0, ⟨#[]⟩⟩) (some R))
  have hRB := hr2.lt
  have hWs := hW2.size
  generalize hBB : w2.heap.size = B at hB hRB hWs ⊢
  clear hBB
  dsimp only [Pkt.box] at hB hr3 hW3
  clear hr2 hW2
  refine (one_cons R _ _ _ hr3).mono ?_
  rintro e w4 ⟨rfl, hr4, hg4⟩
  have hB4 := hB.grown hg4 (by omega)
  have hW4 := grown_trans hW3 hg4
  clear hr3 hg4 hB hW3
  go_wp2_with (go_at_call 29; refine (require_ok _).mono ?_; rintro e w4 ⟨rfl, rfl⟩; obtain ⟨_, _, _, c3, _, _, _, _, _, _, _, _⟩ := hB4.cell; have f3 := hB4.free 3)
  have hr5 := hr4.setCell (B := B) (by omega) (i := 3) (.bool false) (.bool true) (by simp) c3
  have hW5 := grown_new hW4 (a := ⟨B, 3, none⟩) (by simp; omega) (.bool true)
  clear c3 f3 hr4 hB4 hW4
  generalize w4.setCell _ _ = w5 at hr5 hW5 ⊢
  refine (one_cons R _ _ _ hr5).mono ?_
  rintro e w6 ⟨rfl, hr6, hg6⟩
  have hW6 := grown_trans hW5 hg6
  clear hr5 hg6 hW5
  go_wp2_with (go_at_call 29; refine (require_no _).mono ?_; rintro e w9 ⟨rfl, hww⟩; rw [hww])
  exact ⟨rfl, hW6, .inr ⟨isF_zero hz, rfl⟩⟩

set_option maxRecDepth 100000 in
set_option maxHeartbeats 4000000 in
theorem packet_s4t (R : Nat) (a b : Int) (W : World) (hr : Rd R [a, b, 8, 0] W) :
    Calls Try.prog 23 #[.pointer (some ⟨R, 0, none⟩)] W fun e w' => PacketP R [a, b, 8, 0] W e w' := by
  have hR := hr.lt
  go_enter Try.func23, Try.ntmps23
  go_wp2_with fail
  have h1 := hr.alloc Pkt.zero.box
  have hW0 := World.grownBy_alloc W Pkt.zero.box (some R)
  dsimp only [Pkt.box, Pkt.zero] at h1 hW0
  clear hr
  refine (one_cons R _ _ _ h1).mono ?_
  rintro e w1 ⟨rfl, hr1, hg1⟩
  have hW1 := grown_trans hW0 hg1
  clear h1 hg1 hW0
  go_wp2_with fail
  refine (one_cons R _ _ _ hr1).mono ?_
  rintro e w2 ⟨rfl, hr2, hg2⟩
  have hW2 := grown_trans hW1 hg2
  clear hr1 hg2 hW1
  go_wp2_with fail
  have hB := PB.new ⟨a, b, 0, false, 0, 0, 0, 0, 0, 0, none, 0, 0, ⟨#[]⟩⟩ w2
  have hr3 := hr2.alloc (Pkt.box ⟨a, b, 0, false, 0, 0, 0, 0, 0, 0, none, 0, 0, ⟨#[]⟩⟩)
  have hW3 := grown_trans hW2 (World.grownBy_alloc w2 (Pkt.box ⟨a, b, 0, false, 0, 0, 0, 0, 0, 0, none, 0, 0, ⟨#[]⟩⟩) (some R))
  have hRB := hr2.lt
  have hWs := hW2.size
  generalize hBB : w2.heap.size = B at hB hRB hWs ⊢
  clear hBB
  dsimp only [Pkt.box] at hB hr3 hW3
  clear hr2 hW2
  refine (one_cons R _ _ _ hr3).mono ?_
  rintro e w4 ⟨rfl, hr4, hg4⟩
  have hB4 := hB.grown hg4 (by omega)
  have hW4 := grown_trans hW3 hg4
  clear hr3 hg4 hB hW3
  go_wp2_with (go_at_call 29; refine (require_ok _).mono ?_; rintro e w4 ⟨rfl, rfl⟩; obtain ⟨_, _, _, c3, _, _, _, _, _, _, _, _⟩ := hB4.cell; have f3 := hB4.free 3)
  have hr5 := hr4.setCell (B := B) (by omega) (i := 3) (.bool false) (.bool true) (by simp) c3
  have hW5 := grown_new hW4 (a := ⟨B, 3, none⟩) (by simp; omega) (.bool true)
  clear c3 f3 hr4 hB4 hW4
  generalize w4.setCell _ _ = w5 at hr5 hW5 ⊢
  refine (one_cons R _ _ _ hr5).mono ?_
  rintro e w6 ⟨rfl, hr6, hg6⟩
  have hW6 := grown_trans hW5 hg6
  clear hr5 hg6 hW5
  go_wp2_with (go_at_call 29; refine (require_ok _).mono ?_; rintro e w6 ⟨rfl, rfl⟩)
  refine (one_nil R _ hr6).mono ?_
  rintro e w9 ⟨rfl, rfl⟩
  exact ⟨rfl, hW6, .inr ⟨rfl, rfl⟩⟩

end Go.Proofs.Ytmahaccaglaldaa

namespace Go.Proofs.Ytmahaccaglaldaa
open Go.RowKit

/-- Reading a packet, whatever the bytes. -/
theorem packet_any (R : Nat) (xs : List Int) (W : World) (hr : Rd R xs W) :
    Calls Try.prog 23 #[.pointer (some ⟨R, 0, none⟩)] W fun e w' => PacketP R xs W e w' := by
  match xs, hr with
  | [], hr => exact packet_s0 R W hr
  | [a], hr => exact packet_s1 R a W hr
  | [a, b], hr => exact packet_s2 R a b W hr
  | a :: b :: c :: r, hr =>
    by_cases h0 : c = 0
    · subst h0
      match r, hr with
      | [], hr => exact packet_s3f R a b W hr
      | z :: r, hr =>
        by_cases hz : z = 0
        · subst hz
          match r, hr with
          | [], hr => exact packet_s4f R a b W hr
          | n :: r, hr =>
            have hn := hr.bytes n (by simp)
            obtain ⟨m, rfl⟩ := Int.eq_ofNat_of_zero_le hn.1
            by_cases h1 : b = 1
            · subst h1; exact packet_1f R a m r W hr
            by_cases h2 : b = 2
            · subst h2; exact packet_2f R a m r W hr
            by_cases h3 : b = 3
            · subst h3; exact packet_3f R a m r W hr
            by_cases h9 : b = 9
            · subst h9; exact packet_9f R a m r W hr
            exact packet_0f R a m r W b (by simpa using h1) (by simpa using h2) (by simpa using h3) (by simpa using h9) hr
        · exact packet_szf R a b z r (by simpa using hz) W hr
    by_cases h8 : c = 8
    · subst h8
      match r, hr with
      | [], hr => exact packet_s3t R a b W hr
      | z :: r, hr =>
        by_cases hz : z = 0
        · subst hz
          match r, hr with
          | [], hr => exact packet_s4t R a b W hr
          | n :: r, hr =>
            have hn := hr.bytes n (by simp)
            obtain ⟨m, rfl⟩ := Int.eq_ofNat_of_zero_le hn.1
            by_cases h1 : b = 1
            · subst h1; exact packet_1t R a m r W hr
            by_cases h2 : b = 2
            · subst h2; exact packet_2t R a m r W hr
            by_cases h3 : b = 3
            · subst h3; exact packet_3t R a m r W hr
            by_cases h9 : b = 9
            · subst h9; exact packet_9t R a m r W hr
            exact packet_0t R a m r W b (by simpa using h1) (by simpa using h2) (by simpa using h3) (by simpa using h9) hr
        · exact packet_szt R a b z r (by simpa using hz) W hr
    · exact packet_sf R a b c r (by simpa using h0) (by simpa using h8) W hr
end Go.Proofs.Ytmahaccaglaldaa
