import Derived.Test.YtakaadcpaeiccabGreatC25
import Derived.Test.YtakaadcpaeiccabGreatC22
import Derived.Test.YtakaadcpaeiccabGreatC23
import Derived.Test.YtakaadcpaeiccabGreatC24
import Derived.Test.YtakaadcpaeiccabGreatC21
import Derived.Test.YtakaadcpaeiccabGreatC16
import Derived.Test.YtakaadcpaeiccabGreatC17
namespace Go.Proofs.YtakaadcpaeiccabGreat
open Go.RowKit

set_option maxRecDepth 100000 in
set_option maxHeartbeats 4000000 in
theorem packet_s3f (R : Nat) (a b : Int) (W : World) (hr : Rd R [a, b, 0] W) :
    Calls Tryz.prog 56 #[.pointer (some ⟨R, 0, none⟩)] W fun e w' => PacketP R [a, b, 0] W e w' := by
  have hR := hr.lt
  go_enter Tryz.func56, Tryz.ntmps56
  go_wp2_with fail
  have h1 := hr.alloc Pkt.zero.box
  have hW0 := World.grownBy_alloc W Pkt.zero.box (some R)
  dsimp only [Pkt.box, Pkt.zero] at h1 hW0
  clear hr
  refine (one_cons R _ _ _ h1).mono ?_
  rintro e w1 ⟨rfl, hr1, hg1⟩
  have hW1 := grown_trans hW0 hg1
  clear h1 hg1 hW0
  go_wp2_with fail
  refine (one_cons R _ _ _ hr1).mono ?_
  rintro e w2 ⟨rfl, hr2, hg2⟩
  have hW2 := grown_trans hW1 hg2
  clear hr1 hg2 hW1
  go_wp2_with fail
  have hB := PB.new ⟨a, b, 0, false, 0, 0, 0, 0, 0, 0, none, 0, 0, ⟨#[]⟩⟩ w2
  have hr3 := hr2.alloc (Pkt.box ⟨a, b, 0, false, 0, 0, 0, 0, 0, 0, none, 0, 0, ⟨#[]⟩⟩)
  have hW3 := grown_trans hW2 (World.grownBy_alloc w2 (Pkt.box ⟨a, b, 0, false, 0, 0, 0, 0, 0, 0, none, 0, 0, ⟨#[]⟩⟩) (some R))
  have hRB := hr2.lt
  have hWs := hW2.size
  generalize hBB : w2.heap.size = B at hB hRB hWs ⊢
  clear hBB
  dsimp only [Pkt.box] at hB hr3 hW3
  clear hr2 hW2
  refine (one_cons R _ _ _ hr3).mono ?_
  rintro e w4 ⟨rfl, hr4, hg4⟩
  have hB4 := hB.grown hg4 (by omega)
  have hW4 := grown_trans hW3 hg4
  clear hr3 hg4 hB hW3
  go_wp2_with (go_at_call 85; refine (require_ok _).mono ?_; rintro e w4 ⟨rfl, rfl⟩; obtain ⟨_, _, _, c3, _, _, _, _, _, _, _, _⟩ := hB4.cell; have f3 := hB4.free 3)
  have hr5 := hr4.setCell (B := B) (by omega) (i := 3) (.bool false) (.bool false) (by simp) c3
  have hW5 := grown_new hW4 (a := ⟨B, 3, none⟩) (by simp; omega) (.bool false)
  clear c3 f3 hr4 hB4 hW4
  generalize w4.setCell _ _ = w5 at hr5 hW5 ⊢
  refine (one_nil R _ hr5).mono ?_
  rintro e w9 ⟨rfl, rfl⟩
  exact ⟨rfl, hW5, .inr ⟨rfl, rfl⟩⟩

set_option maxRecDepth 100000 in
set_option maxHeartbeats 4000000 in
theorem packet_szf (R : Nat) (a b z : Int) (r : List Int) (hz : (z == 0) = false) (W : World) (hr : Rd R (a :: b :: 0 :: z :: r) W) :
    Calls Tryz.prog 56 #[.pointer (some ⟨R, 0, none⟩)] W fun e w' => PacketP R (a :: b :: 0 :: z :: r) W e w' := by
  have hR := hr.lt
  go_enter Tryz.func56, Tryz.ntmps56
  go_wp2_with fail
  have h1 := hr.alloc Pkt.zero.box
  have hW0 := World.grownBy_alloc W Pkt.zero.box (some R)
  dsimp only [Pkt.box, Pkt.zero] at h1 hW0
  clear hr
  refine (one_cons R _ _ _ h1).mono ?_
  rintro e w1 ⟨rfl, hr1, hg1⟩
  have hW1 := grown_trans hW0 hg1
  clear h1 hg1 hW0
  go_wp2_with fail
  refine (one_cons R _ _ _ hr1).mono ?_
  rintro e w2 ⟨rfl, hr2, hg2⟩
  have hW2 := grown_trans hW1 hg2
  clear hr1 hg2 hW1
  go_wp2_with fail
  have hB := PB.new ⟨a, b, 0, false, 0, 0, 0, 0, 0, 0, none, 0, 0, ⟨#[]⟩⟩ w2
  have hr3 := hr2.alloc (Pkt.box ⟨a, b, 0, false, 0, 0, 0, 0, 0, 0, none, 0, 0, ⟨#[]⟩⟩)
  have hW3 := grown_trans hW2 (World.grownBy_alloc w2 (Pkt.box ⟨a, b, 0, false, 0, 0, 0, 0, 0, 0, none, 0, 0, ⟨#[]⟩⟩) (some R))
  have hRB := hr2.lt
  have hWs := hW2.size
  generalize hBB : w2.heap.size = B at hB hRB hWs ⊢
  clear hBB
  dsimp only [Pkt.box] at hB hr3 hW3
  clear hr2 hW2
  refine (one_cons R _ _ _ hr3).mono ?_
  rintro e w4 ⟨rfl, hr4, hg4⟩
  have hB4 := hB.grown hg4 (by omega)
  have hW4 := grown_trans hW3 hg4
  clear hr3 hg4 hB hW3
  go_wp2_with (go_at_call 85; refine (require_ok _).mono ?_; rintro e w4 ⟨rfl, rfl⟩; obtain ⟨_, _, _, c3, _, _, _, _, _, _, _, _⟩ := hB4.cell; have f3 := hB4.free 3)
  have hr5 := hr4.setCell (B := B) (by omega) (i := 3) (.bool false) (.bool false) (by simp) c3
  have hW5 := grown_new hW4 (a := ⟨B, 3, none⟩) (by simp; omega) (.bool false)
  clear c3 f3 hr4 hB4 hW4
  generalize w4.setCell _ _ = w5 at hr5 hW5 ⊢
  refine (one_cons R _ _ _ hr5).mono ?_
  rintro e w6 ⟨rfl, hr6, hg6⟩
  have hW6 := grown_trans hW5 hg6
  clear hr5 hg6 hW5
  go_wp2_with (go_at_call 85; refine (require_no _).mono ?_; rintro e w9 ⟨rfl, hww⟩; rw [hww])
  exact ⟨rfl, hW6, .inr ⟨isF_zero hz, rfl⟩⟩

set_option maxRecDepth 100000 in
set_option maxHeartbeats 4000000 in
theorem packet_s4f (R : Nat) (a b : Int) (W : World) (hr : Rd R [a, b, 0, 0] W) :
    Calls Tryz.prog 56 #[.pointer (some ⟨R, 0, none⟩)] W fun e w' => PacketP R [a, b, 0, 0] W e w' := by
  have hR := hr.lt
  go_enter Tryz.func56, Tryz.ntmps56
  go_wp2_with fail
  have h1 := hr.alloc Pkt.zero.box
  have hW0 := World.grownBy_alloc W Pkt.zero.box (some R)
  dsimp only [Pkt.box, Pkt.zero] at h1 hW0
  clear hr
  refine (one_cons R _ _ _ h1).mono ?_
  rintro e w1 ⟨rfl, hr1, hg1⟩
  have hW1 := grown_trans hW0 hg1
  clear h1 hg1 hW0
  go_wp2_with fail
  refine (one_cons R _ _ _ hr1).mono ?_
  rintro e w2 ⟨rfl, hr2, hg2⟩
  have hW2 := grown_trans hW1 hg2
  clear hr1 hg2 hW1
  go_wp2_with fail
  have hB := PB.new ⟨a, b, 0, false, 0, 0, 0, 0, 0, 0, none, 0, 0, ⟨#[]⟩⟩ w2
  have hr3 := hr2.alloc (Pkt.box ⟨a, b, 0, false, 0, 0, 0, 0, 0, 0, none, 0, 0, ⟨#[]⟩⟩)
  have hW3 := grown_trans hW2 (World.grownBy_alloc w2 (Pkt.box ⟨a, b, 0, false, 0, 0, 0, 0, 0, 0, none, 0, 0, ⟨#[]⟩⟩) (some R))
  have hRB := hr2.lt
  have hWs := hW2.size
  generalize hBB : w2.heap.size = B at hB hRB hWs ⊢
  clear hBB
  dsimp only [Pkt.box] at hB hr3 hW3
  clear hr2 hW2
  refine (one_cons R _ _ _ hr3).mono ?_
  rintro e w4 ⟨rfl, hr4, hg4⟩
  have hB4 := hB.grown hg4 (by omega)
  have hW4 := grown_trans hW3 hg4
  clear hr3 hg4 hB hW3
  go_wp2_with (go_at_call 85; refine (require_ok _).mono ?_; rintro e w4 ⟨rfl, rfl⟩; obtain ⟨_, _, _, c3, _, _, _, _, _, _, _, _⟩ := hB4.cell; have f3 := hB4.free 3)
  have hr5 := hr4.setCell (B := B) (by omega) (i := 3) (.bool false) (.bool false) (by simp) c3
  have hW5 := grown_new hW4 (a := ⟨B, 3, none⟩) (by simp; omega) (.bool false)
  clear c3 f3 hr4 hB4 hW4
  generalize w4.setCell _ _ = w5 at hr5 hW5 ⊢
  refine (one_cons R _ _ _ hr5).mono ?_
  rintro e w6 ⟨rfl, hr6, hg6⟩
  have hW6 := grown_trans hW5 hg6
  clear hr5 hg6 hW5
  go_wp2_with (go_at_call 85; refine (require_ok _).mono ?_; rintro e w6 ⟨rfl, rfl⟩)
  refine (one_nil R _ hr6).mono ?_
  rintro e w9 ⟨rfl, rfl⟩
  exact ⟨rfl, hW6, .inr ⟨rfl, rfl⟩⟩

set_option maxRecDepth 100000 in
set_option maxHeartbeats 4000000 in
theorem packet_s3t (R : Nat) (a b : Int) (W : World) (hr : Rd R [a, b, 8] W) :
    Calls Tryz.prog 56 #[.pointer (some ⟨R, 0, none⟩)] W fun e w' => PacketP R [a, b, 8] W e w' := by
  have hR := hr.lt
  go_enter Tryz.func56, Tryz.ntmps56
  go_wp2_with fail
  have h1 := hr.alloc Pkt.zero.box
  have hW0 := World.grownBy_alloc W Pkt.zero.box (some R)
  dsimp only [Pkt.box, Pkt.zero] at h1 hW0
  clear hr
  refine (one_cons R _ _ _ h1).mono ?_
  rintro e w1 ⟨rfl, hr1, hg1⟩
  have hW1 := grown_trans hW0 hg1
  clear h1 hg1 hW0
  go_wp2_with fail
  refine (one_cons R _ _ _ hr1).mono ?_
  rintro e w2 ⟨rfl, hr2, hg2⟩
  have hW2 := grown_trans hW1 hg2
  clear hr1 hg2 hW1
  go_wp2_with fail
  have hB := PB.new ⟨a, b, 0, false, 0, 0, 0, 0, 0, 0, none, 0, 0, ⟨#[]⟩⟩ w2
  have hr3 := hr2.alloc (Pkt.box ⟨a, b, 0, false, 0, 0, 0, 0, 0, 0, none, 0, 0, ⟨#[]⟩⟩)
  have hW3 := grown_trans hW2 (World.grownBy_alloc w2 (Pkt.box ⟨a, b, 0, false, 0, 0, 0, 0, 0, 0, none, 0, 0, ⟨#[]⟩⟩) (some R))
  have hRB := hr2.lt
  have hWs := hW2.size
  generalize hBB : w2.heap.size = B at hB hRB hWs ⊢
  clear hBB
  dsimp only [Pkt.box] at hB hr3 hW3
  clear hr2 hW2
  refine (one_cons R _ _ _ hr3).mono ?_
  rintro e w4 ⟨rfl, hr4, hg4⟩
  have hB4 := hB.grown hg4 (by omega)
  have hW4 := grown_trans hW3 hg4
  clear hr3 hg4 hB hW3
  go_wp2_with (go_at_call 85; refine (require_ok _).mono ?_; rintro e w4 ⟨rfl, rfl⟩; obtain ⟨_, _, _, c3, _, _, _, _, _, _, _, _⟩ := hB4.cell; have f3 := hB4.free 3)
  have hr5 := hr4.setCell (B := B) (by omega) (i := 3) (.bool false) (.bool true) (by simp) c3
  have hW5 := grown_new hW4 (a := ⟨B, 3, none⟩) (by simp; omega) (.bool true)
  clear c3 f3 hr4 hB4 hW4
  generalize w4.setCell _ _ = w5 at hr5 hW5 ⊢
  refine (one_nil R _ hr5).mono ?_
  rintro e w9 ⟨rfl, rfl⟩
  exact ⟨rfl, hW5, .inr ⟨rfl, rfl⟩⟩

set_option maxRecDepth 100000 in
set_option maxHeartbeats 4000000 in
theorem packet_szt (R : Nat) (a b z : Int) (r : List Int) (hz : (z == 0) = false) (W : World) (hr : Rd R (a :: b :: 8 :: z :: r) W) :
    Calls Tryz.prog 56 #[.pointer (some ⟨R, 0, none⟩)] W fun e w' => PacketP R (a :: b :: 8 :: z :: r) W e w' := by
  have hR := hr.lt
  go_enter Tryz.func56, Tryz.ntmps56
  go_wp2_with fail
  have h1 := hr.alloc Pkt.zero.box
  have hW0 := World.grownBy_alloc W Pkt.zero.box (some R)
  dsimp only [Pkt.box, Pkt.zero] at h1 hW0
  clear hr
  refine (one_cons R _ _ _ h1).mono ?_
  rintro e w1 ⟨rfl, hr1, hg1⟩
  have hW1 := grown_trans hW0 hg1
  clear h1 hg1 hW0
  go_wp2_with fail
  refine (one_cons R _ _ _ hr1).mono ?_
  rintro e w2 ⟨rfl, hr2, hg2⟩
  have hW2 := grown_trans hW1 hg2
  clear hr1 hg2 hW1
  go_wp2_with fail
  have hB := PB.new ⟨a, b, 0, false, 0, 0, 0, 0, 0, 0, none, 0, 0, ⟨#[]⟩⟩ w2
  have hr3 := hr2.alloc (Pkt.box ⟨a, b, 0, false, 0, 0, 0, 0, 0, 0, none, 0, 0, ⟨#[]⟩⟩)
  have hW3 := grown_trans hW2 (World.grownBy_alloc w2 (Pkt.box ⟨a, b, 0, false, 0, 0, 0, 0, 0, 0, none, 0, 0, ⟨#[]⟩⟩) (some R))
  have hRB := hr2.lt
  have hWs := hW2.size
  generalize hBB : w2.heap.size = B at hB hRB hWs ⊢
  clear hBB
  dsimp only [Pkt.box] at hB hr3 hW3
  clear hr2 hW2
  refine (one_cons R _ _ _ hr3).mono ?_
  rintro e w4 ⟨rfl, hr4, hg4⟩
  have hB4 := hB.grown hg4 (by omega)
  have hW4 := grown_trans hW3 hg4
  clear hr3 hg4 hB hW3
  go_wp2_with (go_at_call 85; refine (require_ok _).mono ?_; rintro e w4 ⟨rfl, rfl⟩; obtain ⟨_, _, _, c3, _, _, _, _, _, _, _, _⟩ := hB4.cell; have f3 := hB4.free 3)
  have hr5 := hr4.setCell (B := B) (by omega) (i := 3) (.bool false) (.bool true) (by simp) c3
  have hW5 := grown_new hW4 (a := ⟨B, 3, none⟩) (by simp; omega) (.bool true)
  clear c3 f3 hr4 hB4 hW4
  generalize w4.setCell _ _ = w5 at hr5 hW5 ⊢
  refine (one_cons R _ _ _ hr5).mono ?_
  rintro e w6 ⟨rfl, hr6, hg6⟩
  have hW6 := grown_trans hW5 hg6
  clear hr5 hg6 hW5
  go_wp2_with (go_at_call 85; refine (require_no _).mono ?_; rintro e w9 ⟨rfl, hww⟩; rw [hww])
  exact ⟨rfl, hW6, .inr ⟨isF_zero hz, rfl⟩⟩

set_option maxRecDepth 100000 in
set_option maxHeartbeats 4000000 in
theorem packet_s4t (R : Nat) (a b : Int) (W : World) (hr : Rd R [a, b, 8, 0] W) :
    Calls Tryz.prog 56 #[.pointer (some ⟨R, 0, none⟩)] W fun e w' => PacketP R [a, b, 8, 0] W e w' := by
  have hR := hr.lt
  go_enter Tryz.func56, Tryz.ntmps56
  go_wp2_with fail
  have h1 := hr.alloc Pkt.zero.box
  have hW0 := World.grownBy_alloc W Pkt.zero.box (some R)
  dsimp only [Pkt.box, Pkt.zero] at h1 hW0
  clear hr
  refine (one_cons R _ _ _ h1).mono ?_
  rintro e w1 ⟨rfl, hr1, hg1⟩
  have hW1 := grown_trans hW0 hg1
  clear h1 hg1 hW0
  go_wp2_with fail
  refine (one_cons R _ _ _ hr1).mono ?_
  rintro e w2 ⟨rfl, hr2, hg2⟩
  have hW2 := grown_trans hW1 hg2
  clear hr1 hg2 hW1
  go_wp2_with fail
  have hB := PB.new ⟨a, b, 0, false, 0, 0, 0, 0, 0, 0, none, 0, 0, ⟨#[]⟩⟩ w2
  have hr3 := hr2.alloc (Pkt.box ⟨a, b, 0, false, 0, 0, 0, 0, 0, 0, none, 0, 0, ⟨#[]⟩⟩)
  have hW3 := grown_trans hW2 (World.grownBy_alloc w2 (Pkt.box ⟨a, b, 0, false, 0, 0, 0, 0, 0, 0, none, 0, 0, ⟨#[]⟩⟩) (some R))
  have hRB := hr2.lt
  have hWs := hW2.size
  generalize hBB : w2.heap.size = B at hB hRB hWs ⊢
  clear hBB
  dsimp only [Pkt.box] at hB hr3 hW3
  clear hr2 hW2
  refine (one_cons R _ _ _ hr3).mono ?_
  rintro e w4 ⟨rfl, hr4, hg4⟩
  have hB4 := hB.grown hg4 (by omega)
  have hW4 := grown_trans hW3 hg4
  clear hr3 hg4 hB hW3
  go_wp2_with (go_at_call 85; refine (require_ok _).mono ?_; rintro e w4 ⟨rfl, rfl⟩; obtain ⟨_, _, _, c3, _, _, _, _, _, _, _, _⟩ := hB4.cell; have f3 := hB4.free 3)
  have hr5 := hr4.setCell (B := B) (by omega) (i := 3) (.bool false) (.bool true) (by simp) c3
  have hW5 := grown_new hW4 (a := ⟨B, 3, none⟩) (by simp; omega) (.bool true)
  clear c3 f3 hr4 hB4 hW4
  generalize w4.setCell _ _ = w5 at hr5 hW5 ⊢
  refine (one_cons R _ _ _ hr5).mono ?_
  rintro e w6 ⟨rfl, hr6, hg6⟩
  have hW6 := grown_trans hW5 hg6
  clear hr5 hg6 hW5
  go_wp2_with (go_at_call 85; refine (require_ok _).mono ?_; rintro e w6 ⟨rfl, rfl⟩)
  refine (one_nil R _ hr6).mono ?_
  rintro e w9 ⟨rfl, rfl⟩
  exact ⟨rfl, hW6, .inr ⟨rfl, rfl⟩⟩

end Go.Proofs.YtakaadcpaeiccabGreat

namespace Go.Proofs.YtakaadcpaeiccabGreat
open Go.RowKit

/-- Reading a packet, whatever the bytes. -/
theorem packet_any (R : Nat) (xs : List Int) (W : World) (hr : Rd R xs W) :
    Calls Tryz.prog 56 #[.pointer (some ⟨R, 0, none⟩)] W fun e w' => PacketP R xs W e w' := by
  match xs, hr with
  | [], hr => exact packet_s0 R W hr
  | [a], hr => exact packet_s1 R a W hr
  | [a, b], hr => exact packet_s2 R a b W hr
  | a :: b :: c :: r, hr =>
    by_cases h0 : c = 0
    · subst h0
      match r, hr with
      | [], hr => exact packet_s3f R a b W hr
      | z :: r, hr =>
        by_cases hz : z = 0
        · subst hz
          match r, hr with
          | [], hr => exact packet_s4f R a b W hr
          | n :: r, hr =>
            have hn := hr.bytes n (by simp)
            obtain ⟨m, rfl⟩ := Int.eq_ofNat_of_zero_le hn.1
            by_cases h1 : b = 1
            · subst h1; exact packet_1f R a m r W hr
            by_cases h2 : b = 2
            · subst h2; exact packet_2f R a m r W hr
            by_cases h3 : b = 3
            · subst h3; exact packet_3f R a m r W hr
            by_cases h9 : b = 9
            · subst h9; exact packet_9f R a m r W hr
            exact packet_0f R a m r W b (by simpa using h1) (by simpa using h2) (by simpa using h3) (by simpa using h9) hr
        · exact packet_szf R a b z r (by simpa using hz) W hr
    by_cases h8 : c = 8
    · subst h8
      match r, hr with
      | [], hr => exact packet_s3t R a b W hr
      | z :: r, hr =>
        by_cases hz : z = 0
        · subst hz
          match r, hr with
          | [], hr => exact packet_s4t R a b W hr
          | n :: r, hr =>
            have hn := hr.bytes n (by simp)
            obtain ⟨m, rfl⟩ := Int.eq_ofNat_of_zero_le hn.1
            by_cases h1 : b = 1
            · subst h1; exact packet_1t R a m r W hr
            by_cases h2 : b = 2
            · subst h2; exact packet_2t R a m r W hr
            by_cases h3 : b = 3
            · subst h3; exact packet_3t R a m r W hr
            by_cases h9 : b = 9
            · subst h9; exact packet_9t R a m r W hr
            exact packet_0t R a m r W b (by simpa using h1) (by simpa using h2) (by simpa using h3) (by simpa using h9) hr
        · exact packet_szt R a b z r (by simpa using hz) W hr
    · exact packet_sf R a b c r (by simpa using h0) (by simpa using h8) W hr
end Go.Proofs.YtakaadcpaeiccabGreat

namespace Go.Proofs.YtakaadcpaeiccabGreat

theorem b4_n4 {a b c d : Int} (hb : 0 ≤ b ∧ b ≤ 255) (hc : 0 ≤ c ∧ c ≤ 255) (hd : 0 ≤ d ∧ d ≤ 255) : b4 (n4 a b c d) = [a, b, c, d] := by
  unfold b4 n4
  simp only [List.cons.injEq, and_true]
  omega
theorem n4_b4 {n : Int} : n4 (n / 16777216) (n / 65536 % 256) (n / 256 % 256) (n % 256) = n := by
  unfold n4
  omega

/-- Four bytes of a list spell a number, and the number the bytes. -/
theorem b4_num {r : List Int} (hb : ∀ x ∈ r, 0 ≤ x ∧ x ≤ 255) (k : Nat) (h : 4 * k + 4 ≤ r.length) : b4 (num r k) = (r.drop (4 * k)).take 4 := by
  have hx : ∀ j, 4 * k + j < r.length → r.getD (4 * k + j) 0 = (r.drop (4 * k)).getD j 0 := by
    intro j _
    simp [List.getD, List.getElem?_drop]
  have hbd : ∀ x ∈ r.drop (4 * k), 0 ≤ x ∧ x ≤ 255 := fun x hx => hb x (List.mem_of_mem_drop hx)
  have hl : (r.drop (4 * k)).length = r.length - 4 * k := List.length_drop
  unfold num
  rw [show 4 * k = 4 * k + 0 from rfl, hx 0 (by omega), hx 1 (by omega), hx 2 (by omega), hx 3 (by omega), Nat.add_zero]
  generalize r.drop (4 * k) = q at hbd hl
  match q, hl, hbd with
  | [], hl, _ => simp at hl; omega
  | [_], hl, _ => simp at hl; omega
  | [_, _], hl, _ => simp at hl; omega
  | [_, _, _], hl, _ => simp at hl; omega
  | a :: b :: c :: d :: q, _, hbd =>
    show b4 (n4 a b c d) = [a, b, c, d]
    exact b4_n4 (hbd b (by simp)) (hbd c (by simp)) (hbd d (by simp))

theorem take_more (r : List Int) (n : Nat) : r.take n ++ (r.drop n).take 4 = r.take (n + 4) := by
  rw [List.take_add]

theorem lostB_plOf {r : List Int} (hb : ∀ x ∈ r, 0 ≤ x ∧ x ≤ 255) (n : Nat) (h : 8 * n ≤ r.length) : ((plOf n r).flatMap fun x => b4 x.1 ++ b4 x.2) = r.take (8 * n) := by
  induction n with
  | zero => rfl
  | succ n ih =>
    rw [plOf_succ, List.flatMap_append, ih (by omega)]
    simp only [List.flatMap_cons, List.flatMap_nil, List.append_nil]
    rw [b4_num hb (2 * n) (by omega), b4_num hb (2 * n + 1) (by omega), ← List.append_assoc, show 4 * (2 * n) = 8 * n by omega, take_more, show 4 * (2 * n + 1) = 8 * n + 4 by omega, take_more]
    rfl

theorem cnt_flag (p : Pkt) (a : Option Addr) (c : Nat) (L : List (Int × Int)) : encB { p with la := a, lc := c } L = encB p L := rfl

/-- What is read is written again. -/
theorem enc_pkOf {x0 x1 x2 x3 x4 : Int} {r : List Int} (hb : ∀ x ∈ x0 :: x1 :: x2 :: x3 :: x4 :: r, 0 ≤ x ∧ x ≤ 255) (h : isF (x0 :: x1 :: x2 :: x3 :: x4 :: r) = true) :
    encB (pkOf x0 x1 x2 x4 r) (lsOf x1 x4 r) = x0 :: x1 :: x2 :: x3 :: x4 :: r := by
  simp only [isF, Bool.and_eq_true, decide_eq_true_eq] at h
  obtain ⟨⟨⟨hf, rfl⟩, hlen⟩, hg⟩ := h
  obtain ⟨hl, ht0, ht1, hh0, hh1, hpay, hk⟩ := good_parts hg
  obtain ⟨e1, e2, e3, e4⟩ := like_parts hl
  have hbr : ∀ x ∈ r, 0 ≤ x ∧ x ≤ 255 := fun x hx => hb x (by simp [hx])
  have h4 := hb x4 (by simp)
  have hkk : (pkOf x0 x1 x2 x4 r).kind = x1 := by
    unfold pkOf
    split
    · rename_i h; exact h.symm
    split
    · rename_i h; exact h.symm
    split
    · rename_i h; exact h.symm
    split
    · rename_i h; exact h.symm
    · rfl
  rw [hkk] at hk
  have hfl : ∀ (b : Bool), (x2 == 8) = b → (if b then (8 : Int) else 0) = x2 := by
    intro b hb
    rcases hf with rfl | rfl
    · subst hb; rfl
    · subst hb; rfl
  rcases hk with rfl | rfl | rfl | ⟨rfl, hn0, hn1⟩
  · have hl20 : r.length = 20 := hlen
    have hall : b4 (num r 0) ++ b4 (num r 1) ++ b4 (num r 2) ++ b4 (num r 3) ++ b4 (num r 4) = r := by
      rw [b4_num hbr 0 (by omega), b4_num hbr 1 (by omega), b4_num hbr 2 (by omega), b4_num hbr 3 (by omega), b4_num hbr 4 (by omega)]
      simp only [Nat.mul_zero, List.drop_zero, Nat.mul_one, Nat.reduceMul, take_more, Nat.reduceAdd]
      exact List.take_of_length_le (by omega)
    show [x0, 1, (if (x2 == 8) then (8 : Int) else 0), 0, x4] ++ (b4 (num r 0) ++ (b4 (num r 1) ++ (b4 (num r 2) ++ (b4 (num r 3) ++ (b4 (num r 4) ++ []))))) ++ [] ++ [] = _
    rw [hfl _ rfl]
    simp only [List.append_nil, List.append_assoc] at hall ⊢
    rw [hall]
    rfl
  · have hl16 : r.length = 16 := hlen
    have hall : b4 (num r 0) ++ b4 (num r 1) ++ b4 (num r 2) ++ b4 (num r 3) = r := by
      rw [b4_num hbr 0 (by omega), b4_num hbr 1 (by omega), b4_num hbr 2 (by omega), b4_num hbr 3 (by omega)]
      simp only [Nat.mul_zero, List.drop_zero, Nat.mul_one, Nat.reduceMul, take_more, Nat.reduceAdd]
      exact List.take_of_length_le (by omega)
    show [x0, 2, (if (x2 == 8) then (8 : Int) else 0), 0, x4] ++ (b4 (num r 0) ++ (b4 (num r 1) ++ (b4 (num r 2) ++ (b4 (num r 3) ++ [])))) ++ [] ++ [] = _
    rw [hfl _ rfl]
    simp only [List.append_nil, List.append_assoc] at hall ⊢
    rw [hall]
    rfl
  · have hl9 : r.length = 12 + x4.toNat := hlen
    have hall : b4 (num r 0) ++ b4 (num r 1) ++ b4 (num r 2) = r.take 12 := by
      rw [b4_num hbr 0 (by omega), b4_num hbr 1 (by omega), b4_num hbr 2 (by omega)]
      simp only [Nat.mul_zero, List.drop_zero, Nat.mul_one, Nat.reduceMul, take_more, Nat.reduceAdd]
    have hdt : (r.drop 12).take x4.toNat = r.drop 12 := List.take_of_length_le (by rw [List.length_drop]; omega)
    have hpb : strNums (strOfNums (r.drop 12)) = r.drop 12 := by
      have hq : ∀ q : List Int, (∀ x ∈ q, 0 ≤ x ∧ x ≤ 255) → strNums (strOfNums q) = q := by
        intro q hq
        simp only [strNums, strOfNums_data, List.map_map]
        conv => rhs; rw [← List.map_id q]
        refine List.map_congr_left fun x hx => ?_
        have := hq x hx
        simp only [Function.comp_apply, id]
        have hlt : x.toNat < 256 := by omega
        rw [UInt8.toNat_ofNat', Nat.mod_eq_of_lt (by omega)]
        omega
      exact hq _ fun x hx => hbr x (List.mem_of_mem_drop hx)
    show [x0, 9, (if (x2 == 8) then (8 : Int) else 0), 0, ((strOfNums ((r.drop 12).take x4.toNat)).size : Int)] ++ (b4 (num r 0) ++ (b4 (num r 1) ++ (b4 (num r 2) ++ []))) ++ [] ++ strNums (strOfNums ((r.drop 12).take x4.toNat)) = _
    rw [hfl _ rfl, hdt, hpb, strOfNums_size, List.length_drop, show ((r.length - 12 : Nat) : Int) = x4 by omega]
    simp only [List.append_nil, List.append_assoc] at hall ⊢
    rw [← List.append_assoc (b4 (num r 1)), ← List.append_assoc (b4 (num r 0)), hall]
    simp
  · have hl3 : r.length = 8 * x4.toNat := hlen
    have hall := lostB_plOf hbr x4.toNat (by omega)
    rw [List.take_of_length_le (by omega)] at hall
    have hlost : lostB (plOf x4.toNat r) (plOf x4.toNat r).length = r := by
      unfold lostB
      rw [List.take_of_length_le (Nat.le_refl _)]
      exact hall
    show [x0, 3, (if (x2 == 8) then (8 : Int) else 0), 0, ((x4.toNat : Nat) : Int)] ++ [] ++ lostB (plOf x4.toNat r) (plOf x4.toNat r).length ++ [] = _
    rw [hfl _ rfl, hlost, show ((x4.toNat : Nat) : Int) = x4 by omega]
    simp
end Go.Proofs.YtakaadcpaeiccabGreat

namespace Go.Proofs.YtakaadcpaeiccabGreat
open Go.RowKit

theorem num_shift (x y : Int) (r : List Int) (k : Nat) : num (b4 x ++ (b4 y ++ r)) (k + 2) = num r k := by
  unfold num
  rw [show 4 * (k + 2) = 4 * k + 8 by omega]
  rfl
theorem num_first (x : Int) (r : List Int) : num (b4 x ++ r) 0 = x := by
  show n4 (x / 16777216) (x / 65536 % 256) (x / 256 % 256) (x % 256) = x
  exact n4_b4
theorem num_next (x : Int) (r : List Int) (k : Nat) : num (b4 x ++ r) (k + 1) = num r k := by
  unfold num
  rw [show 4 * (k + 1) = 4 * k + 4 by omega]
  rfl

theorem plOf_flat (L : List (Int × Int)) : plOf L.length (L.flatMap fun x => b4 x.1 ++ b4 x.2) = L := by
  induction L with
  | nil => rfl
  | cons a L ih =>
    unfold plOf at ih ⊢
    rw [List.length_cons, List.range_succ_eq_map, List.map_cons, List.map_map]
    simp only [List.flatMap_cons, List.append_assoc, Nat.mul_zero, Nat.zero_add]
    rw [num_first, num_next _ _ 0, num_first]
    conv => rhs; rw [← ih]
    refine congrArg _ (List.map_congr_left fun i _ => ?_)
    simp only [Function.comp_apply]
    rw [show 2 * Nat.succ i = 2 * i + 2 by omega, show 2 * i + 2 + 1 = 2 * i + 1 + 2 by omega, num_shift, num_shift]

theorem flag_of (u : Bool) : ((if u then (8 : Int) else 0) == 8) = u := by cases u <;> rfl

/-- What follows the first five bytes. -/
def tailB (p : Pkt) (L : List (Int × Int)) : List Int := p.numB p.nums.length ++ lostB L L.length ++ strNums p.pay

theorem encB_cons (p : Pkt) (L : List (Int × Int)) : encB p L = p.ttl :: p.kind :: flagB p :: 0 :: p.cnt :: tailB p L := by
  simp only [encB, tailB, Pkt.head, List.append_assoc, List.cons_append, List.nil_append]

theorem dec_enc (p : Pkt) (hg : p.goodB = true) (L : List (Int × Int)) (hl : L.length = p.ln) :
    (tailB p L).length = needOf p.kind p.cnt ∧ pkOf p.ttl p.kind (flagB p) p.cnt (tailB p L) = { p with la := none, lc := 0 } ∧ lsOf p.kind p.cnt (tailB p L) = L := by
  obtain ⟨hlk, _, _, _, _, _, hk⟩ := good_parts hg
  simp only [Pkt.likeB, alikeB, Bool.and_eq_true, decide_eq_true_eq] at hlk
  obtain ⟨hln, _, _, h3, h4, h5, h6, h7, h8, h9, h10, h11⟩ := hlk
  obtain ⟨ttl, kind, hops, unk, id, dest, dseq, frm, fseq, life, la, ln, lc, pay⟩ := p
  dsimp only at hk h3 h4 h5 h6 h7 h8 h9 h10 h11 hln hl ⊢
  rcases hk with rfl | rfl | rfl | ⟨rfl, hn0, hn1⟩
  · simp only [Pkt.ownP, if_true] at h3 h4 h5 h6 h7 h8 h9 h10 h11 hln
    subst h10 h11 hln
    obtain rfl := List.eq_nil_of_length_eq_zero hl
    refine ⟨rfl, ?_, rfl⟩
    have ht : tailB ⟨ttl, 1, hops, unk, id, dest, dseq, frm, fseq, 0, la, 0, lc, ⟨#[]⟩⟩ [] = b4 id ++ (b4 dest ++ (b4 dseq ++ (b4 frm ++ (b4 fseq ++ [])))) := rfl
    rw [ht]
    show (⟨ttl, 1, hops, flagB _ == 8, num _ 0, num _ 1, num _ 2, num _ 3, num _ 4, 0, none, 0, 0, ⟨#[]⟩⟩ : Pkt) = _
    rw [num_first, num_next _ _ 0, num_first, num_next _ _ 1, num_next _ _ 0, num_first, num_next _ _ 2, num_next _ _ 1, num_next _ _ 0, num_first, num_next _ _ 3, num_next _ _ 2, num_next _ _ 1, num_next _ _ 0, num_first]
    unfold flagB
    rw [flag_of]
  · simp only [Pkt.ownP, show ¬ ((2 : Int) = 1) by omega, if_false, if_true] at h3 h4 h5 h6 h7 h8 h9 h10 h11 hln
    subst h4 h5 h9 h11 hln
    obtain rfl := List.eq_nil_of_length_eq_zero hl
    refine ⟨rfl, ?_, rfl⟩
    have ht : tailB ⟨ttl, 2, hops, false, 0, dest, dseq, frm, 0, life, la, 0, lc, ⟨#[]⟩⟩ [] = b4 dest ++ (b4 dseq ++ (b4 frm ++ (b4 life ++ []))) := rfl
    rw [ht]
    show (⟨ttl, 2, hops, flagB _ == 8, 0, num _ 0, num _ 1, num _ 2, 0, num _ 3, none, 0, 0, ⟨#[]⟩⟩ : Pkt) = _
    rw [num_first, num_next _ _ 0, num_first, num_next _ _ 1, num_next _ _ 0, num_first, num_next _ _ 2, num_next _ _ 1, num_next _ _ 0, num_first]
    rfl
  · simp only [Pkt.ownP, show ¬ ((9 : Int) = 1) by omega, show ¬ ((9 : Int) = 2) by omega, show ¬ ((9 : Int) = 3) by omega, if_false, if_true] at h3 h4 h5 h6 h7 h8 h9 h10 h11 hln
    subst h3 h4 h7 h9 h10 hln
    obtain rfl := List.eq_nil_of_length_eq_zero hl
    have ht : tailB ⟨ttl, 9, 0, false, id, dest, 0, frm, 0, 0, la, 0, lc, pay⟩ [] = b4 id ++ (b4 dest ++ (b4 frm ++ strNums pay)) := rfl
    have hc : Pkt.cnt ⟨ttl, 9, 0, false, id, dest, 0, frm, 0, 0, la, 0, lc, pay⟩ = (pay.size : Int) := rfl
    rw [ht, hc]
    refine ⟨?_, ?_, rfl⟩
    · show _ = 12 + ((pay.size : Nat) : Int).toNat
      simp only [List.length_append, b4_length, strNums_length]
      omega
    · show (⟨ttl, 9, 0, flagB _ == 8, num _ 0, num _ 1, 0, num _ 2, 0, 0, none, 0, 0, strOfNums ((strNums pay).take ((pay.size : Nat) : Int).toNat)⟩ : Pkt) = _
      rw [num_first, num_next _ _ 0, num_first, num_next _ _ 1, num_next _ _ 0, num_first, List.take_of_length_le (by rw [strNums_length]; omega), strOfNums_strNums]
      rfl
  · simp only [Pkt.ownP, show ¬ ((3 : Int) = 1) by omega, show ¬ ((3 : Int) = 2) by omega, if_false, if_true] at h3 h4 h5 h6 h7 h8 h9 h10 h11
    subst h3 h4 h5 h6 h7 h8 h9 h10 h11
    have ht : tailB ⟨ttl, 3, 0, false, 0, 0, 0, 0, 0, 0, la, ln, lc, ⟨#[]⟩⟩ L = (L.flatMap fun x => b4 x.1 ++ b4 x.2) := by
      show [] ++ lostB L L.length ++ [] = _
      unfold lostB
      rw [List.take_of_length_le (Nat.le_refl _), List.append_nil, List.nil_append]
    have hc : Pkt.cnt ⟨ttl, 3, 0, false, 0, 0, 0, 0, 0, 0, la, ln, lc, ⟨#[]⟩⟩ = (ln : Int) := rfl
    rw [ht, hc]
    refine ⟨?_, ?_, ?_⟩
    · show _ = 8 * ((ln : Nat) : Int).toNat
      rw [flat8_len, hl]
      omega
    · show (⟨ttl, 3, 0, flagB _ == 8, 0, 0, 0, 0, 0, 0, none, ((ln : Nat) : Int).toNat, 0, ⟨#[]⟩⟩ : Pkt) = _
      rw [show ((ln : Nat) : Int).toNat = ln by omega]
      rfl
    · show plOf ((ln : Nat) : Int).toNat _ = L
      rw [show ((ln : Nat) : Int).toNat = L.length by omega]
      exact plOf_flat L

theorem isF_enc (p : Pkt) (hg : p.goodB = true) (L : List (Int × Int)) (hl : L.length = p.ln) : isF (encB p L) = true := by
  obtain ⟨h1, h2, _⟩ := dec_enc p hg L hl
  rw [encB_cons]
  have hf : flagB p = 0 ∨ flagB p = 8 := by unfold flagB; cases p.unk <;> simp
  rw [isF_eq hf h1, h2, goodB_la p none 0]
  exact hg
end Go.Proofs.YtakaadcpaeiccabGreat

namespace Go.Proofs.YtakaadcpaeiccabGreat
open Go.RowKit

theorem Decode_any (v : Value) (xs : List Int) (W : World) (hv : RestV W v xs) :
    Calls Tryz.prog 22 #[v] W fun e w' => DecodeP xs W e w' := Decode_of packet_any v xs W hv
end Go.Proofs.YtakaadcpaeiccabGreat

namespace Go.Proofs.YtakaadcpaeiccabGreat
open Go.RowKit Go.Maps

theorem AcM.ge {B : Nat} {a : AcV} {nws : List (Bool × Int × Int)} {frs cms : List (Int × ByteArray)} {drs : List Int} {W : World} (h : AcM B (B + 1) a nws frs cms drs W) {k : Nat} (hk : AcIn B a k) : B ≤ k := by
  rcases hk with rfl | hk | hk | hk | hk
  · exact Nat.le_refl _
  · exact Nat.le_of_succ_le (h.wrt.lt k hk).1
  · exact Nat.le_of_succ_le (h.frm.lt k hk).1
  · exact Nat.le_of_succ_le (h.cam.lt k hk).1
  · exact Nat.le_of_succ_le (h.drp.lt k hk).1
theorem pk_offA (p : Pkt) : offA p.box := ⟨fun c e => (by cases e), fun c e => (by cases e), fun c e => (by cases e), fun c e => (by cases e), fun c e => (by cases e)⟩
theorem NdM.act {N : Nat} {x : NdV} {M : Nat} {ff : Int → Option Nat} {gg : Int → Value} {A : List Rt} {f : Int → Option Int} {sz : Nat} {W W' : World} (h : NdM N x M ff gg A f sz W) {B base : Nat} {a : AcV} {nws : List (Bool × Int × Int)} {frs cms : List (Int × ByteArray)} {drs : List Int} (ha : AcM B base a nws frs cms drs W) (hf : Fx (AcIn B a) W W') : NdM N x M ff gg A f sz W' :=
  h.kept hf fun _ hk _ => ha.offT hk
/-- A node in silence turns its own cell. -/
theorem NdM.setSil {N : Nat} {x : NdV} {M : Nat} {ff : Int → Option Nat} {gg : Int → Value} {A : List Rt} {f : Int → Option Int} {sz : Nat} {W : World} (h : NdM N x M ff gg A f sz W) (v : Int) : NdM N { x with sil := v } M ff gg A f sz (W.setCell ⟨N, 4, none⟩ (.int .u64 v)) ∧ W.grownBy (W.setCell ⟨N, 4, none⟩ (.int .u64 v)) (some N) := by
  have hg : W.grownBy (W.setCell ⟨N, 4, none⟩ (.int .u64 v)) (some N) := grown_cellOf (grown_self _ (some N)) 4 _
  refine ⟨⟨h.nd.setSil v, h.mo.kept hg (by simpa using Ne.symm (nd_mo h.nd h.mo)), h.tb.keptFx (S := fun k => k = N) (Fx.grown hg fun k e => by cases e; rfl) ?_, h.ne⟩, hg⟩
  rintro k rfl _
  refine ⟨fun e => ?_, _, h.nd, nd_offT x⟩
  obtain ⟨D, ⟨es, cl, hm, _⟩, _⟩ := h.tb.map
  rw [← e, show W.heap[k]? = _ from h.nd] at hm
  cases hm
end Go.Proofs.YtakaadcpaeiccabGreat
