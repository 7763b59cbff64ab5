import Derived.Test.YtakaadcpaeiccabGreatC24
import Derived.Test.YtakaadcpaeiccabGreatC19
import Derived.Test.YtakaadcpaeiccabGreatC25
import Derived.Test.YtakaadcpaeiccabGreatC26
import Derived.Test.YtakaadcpaeiccabGreatC27
import Derived.Test.YtakaadcpaeiccabGreatC20
namespace Go.Proofs.YtakaadcpaeiccabGreat
open Go.RowKit

set_option maxRecDepth 100000 in
set_option maxHeartbeats 8000000 in
theorem packet_0t (R : Nat) (x0 x4 : Int) (r : List Int) (W : World) (k : Int) (k1 : (k == 1) = false) (k2 : (k == 2) = false) (k3 : (k == 3) = false) (k9 : (k == 9) = false) (hr : Rd R (x0 :: k :: 8 :: 0 :: x4 :: r) W) :
    Calls Tryz.prog 56 #[.pointer (some ⟨R, 0, none⟩)] W fun e w' => PacketP R (x0 :: k :: 8 :: 0 :: x4 :: r) W e w' := by
  have hby := hr.bytes
  have hR := hr.lt
  go_enter Tryz.func56, Tryz.ntmps56
  go_wp2_with fail
  have hC0 := PB.new Pkt.zero W
  have h1 := hr.alloc Pkt.zero.box
  have hg0 := World.grownBy_alloc W Pkt.zero.box (some R)
  dsimp only [Pkt.box, Pkt.zero] at hC0 h1 hg0
  refine (one_cons R _ _ _ h1).mono ?_
  rintro e w1 ⟨rfl, hr1, hg1⟩
  have hC1 : PB Pkt.zero W.heap.size w1 := PB.grown hC0 hg1 (by omega)
  have hW1 := grown_trans hg0 hg1
  clear hr h1 hg0 hg1 hC0
  go_wp2_with fail
  refine (one_cons R _ _ _ hr1).mono ?_
  rintro e w2 ⟨rfl, hr2, hg2⟩
  have hC2 := hC1.grown hg2 (by omega)
  have hW2 := grown_trans hW1 hg2
  clear hr1 hg2 hC1 hW1
  go_wp2_with fail
  have hB := PB.new ⟨x0, k, 0, false, 0, 0, 0, 0, 0, 0, none, 0, 0, ⟨#[]⟩⟩ w2
  have hCB : W.heap.size < w2.heap.size := hC2.lt
  have hC3 := hC2.alloc (Pkt.box ⟨x0, k, 0, false, 0, 0, 0, 0, 0, 0, none, 0, 0, ⟨#[]⟩⟩)
  have hr3 := hr2.alloc (Pkt.box ⟨x0, k, 0, false, 0, 0, 0, 0, 0, 0, none, 0, 0, ⟨#[]⟩⟩)
  have hW3 := grown_trans hW2 (World.grownBy_alloc w2 (Pkt.box ⟨x0, k, 0, false, 0, 0, 0, 0, 0, 0, none, 0, 0, ⟨#[]⟩⟩) (some R))
  have hRB := hr2.lt
  generalize hBB : w2.heap.size = B at hB hCB hRB ⊢
  clear hBB
  dsimp only [Pkt.box] at hB hC3 hr3 hW3
  clear hr2 hC2 hW2
  refine (one_cons R _ _ _ hr3).mono ?_
  rintro e w4 ⟨rfl, hr4, hg4⟩
  have hB4 := hB.grown hg4 (by omega)
  have hC4 := hC3.grown hg4 (by omega)
  have hW4 := grown_trans hW3 hg4
  clear hr3 hg4 hB hC3 hW3
  go_wp2_with (go_at_call 85; refine (require_ok _).mono ?_; rintro e w4 ⟨rfl, rfl⟩; obtain ⟨_, _, _, c3, _, _, _, _, _, _, _, _⟩ := hB4.cell; have f3 := hB4.free 3)
  have hB5 := hB4.set ⟨x0, k, 0, true, 0, 0, 0, 0, 0, 0, none, 0, 0, ⟨#[]⟩⟩ 3 (.bool true) rfl
  have hr5 := hr4.setCell (B := B) (by omega) (i := 3) (.bool false) (.bool true) (by simp) c3
  have hC5 := hC4.other (a := ⟨B, 3, none⟩) (by simp; omega) (.bool true)
  have hW5 := grown_new hW4 (a := ⟨B, 3, none⟩) (by simp; omega) (.bool true)
  clear c3 f3 hr4 hB4 hC4 hW4
  generalize w4.setCell _ _ = w5 at hB5 hr5 hC5 hW5 ⊢
  refine (one_cons R _ _ _ hr5).mono ?_
  rintro e w6 ⟨rfl, hr6, hg6⟩
  have hB6 := hB5.grown hg6 (by omega)
  have hC6 := hC5.grown hg6 (by omega)
  have hW6 := grown_trans hW5 hg6
  clear hr5 hg6 hB5 hC5 hW5
  go_wp2_with (go_at_call 85; refine (require_ok _).mono ?_; rintro e w6 ⟨rfl, rfl⟩)
  refine (one_cons R _ _ _ hr6).mono ?_
  rintro e w7 ⟨rfl, hr7, hg7⟩
  have hB7 := hB6.grown hg7 (by omega)
  have hC7 := hC6.grown hg7 (by omega)
  have hW7 := grown_trans hW6 hg7
  clear hr6 hg7 hB6 hC6 hW6
  go_wp2_with fail
  obtain ⟨_, c1, _, _, _, _, _, _, _, _, _, _⟩ := hB7.cell
  refine (numbers_0 B k k1 k2 k9 w7 c1).mono ?_
  rintro e w7 ⟨rfl, rfl⟩
  clear c1
  go_wp2_with fail
  refine wp_loop_rounds 1 ?_
  rw [rounds_succ]
  have q1 := hby k (by simp)
  have hne : k ≠ 1 ∧ k ≠ 2 ∧ k ≠ 3 ∧ k ≠ 9 := ⟨by simpa using k1, by simpa using k2, by simpa using k3, by simpa using k9⟩
  have hneed : needOf k x4 = 0 := by simp [needOf, hne.1, hne.2.1, hne.2.2.1, hne.2.2.2]
  have hpk0 : pkOf x0 k 8 x4 [] = ⟨x0, k, 0, true, 0, 0, 0, 0, 0, 0, none, 0, 0, ⟨#[]⟩⟩ := by simp [pkOf, hne.1, hne.2.1, hne.2.2.1, hne.2.2.2]
  have hneed' := (show Hid _ from hneed)
  have hpk0' := (show Hid _ from hpk0)
  have hne' := (show Hid _ from hne)
  clear hneed hpk0 hne
  obtain ⟨v, hv, hvf, hvb, hvs⟩ := hr7
  have hsh : ∃ a c, v = .slice a r.length c := by
    rcases hvs with ⟨rfl, h⟩ | ⟨_, _, _, rfl, _⟩
    · exact ⟨none, 0, by rw [h]; rfl⟩
    · exact ⟨_, _, rfl⟩
  obtain ⟨sa, sc, rfl⟩ := hsh
  clear hvs hvb hvf
  have hBx := hB7
  have hCx := hC7
  have hWx := hW7
  obtain ⟨c0, c1, c2, c3, c4, c5, c6, c7, c8, c9, c10, c11⟩ := hB7.cell
  dsimp only at c0 c1 c2 c3 c4 c5 c6 c7 c8 c9 c10 c11
  by_cases hrest : r = []
  case neg =>
    have hl0 : ((r.length : Int) == 0) = false := by
      rw [beq_eq_false_iff_ne]
      intro h
      exact hrest (List.eq_nil_of_length_eq_zero (by omega))
    go_wp2_with (go_at_call 85; refine (require_no _).mono ?_; rintro e w9 ⟨rfl, hww⟩; rw [hww])
    have hl1 : 0 < r.length := List.length_pos_iff.2 hrest
    refine ⟨rfl, hWx, .inr ⟨?_, rfl⟩⟩
    exact isF_len (by rw [hneed'.out]; omega)
  subst hrest
  have q0 := hby x0 (by simp)
  have q4 := hby x4 (by simp)
  have hwf : Pkt.Wf ⟨x0, k, 0, true, 0, 0, 0, 0, 0, 0, none, 0, 0, ⟨#[]⟩⟩ := ⟨by dsimp only; omega, by dsimp only; omega, by dsimp only; omega, by dsimp only; omega, by dsimp only; omega, by dsimp only; omega, by dsimp only; omega, by dsimp only; omega, by dsimp only; omega, by dsimp only; omega, by dsimp only; omega, by dsimp only; omega, by dsimp only; omega, by dsimp only; omega, by dsimp only; omega, by dsimp only; omega, by dsimp only; omega, by dsimp only; omega, by dsimp only; omega, by simp [ByteArray.size]⟩
  have hpk : pkOf x0 k 8 x4 [] = ⟨x0, k, 0, true, 0, 0, 0, 0, 0, 0, none, 0, 0, ⟨#[]⟩⟩ := hpk0'.out
  have hisF := isF_eq (x0 := x0) (x1 := k) (x2 := 8) (x4 := x4) (r := []) (by simp) (hneed'.out.symm)
  rw [hpk] at hisF
  clear hby q0 q4 q1
  cases hg : Pkt.goodB ⟨x0, k, 0, true, 0, 0, 0, 0, 0, 0, none, 0, 0, ⟨#[]⟩⟩
  · go_wp2_with (first | (go_at_call 90; refine (isPacket_any ⟨x0, k, 0, true, 0, 0, 0, 0, 0, 0, none, 0, 0, ⟨#[]⟩⟩ hwf _).mono ?_; rintro e w9 ⟨rfl, hb9⟩) | (go_at_call 85; refine (require_no _).mono ?_; rintro e w10 ⟨rfl, hww⟩; rw [hww]))
    exact ⟨rfl, grown_below hWx hb9, .inr ⟨hisF.trans hg, rfl⟩⟩
  · go_wp2_with (first | (go_at_call 90; refine (isPacket_any ⟨x0, k, 0, true, 0, 0, 0, 0, 0, 0, none, 0, 0, ⟨#[]⟩⟩ hwf _).mono ?_; rintro e w9 ⟨rfl, hb9⟩; have hBy := hBx.below hb9; have hCy := hCx.below hb9; obtain ⟨y0, y1, y2, y3, y4, y5, y6, y7, y8, y9, y10, y11⟩ := hBy.cell; obtain ⟨k0, k1, k2, k3, k4, k5, k6, k7, k8, k9, k10, k11⟩ := hCy.cell; have kf := hCy.free; dsimp only at y0 y1 y2 y3 y4 y5 y6 y7 y8 y9 y10 y11; dsimp only [Pkt.zero] at k0 k1 k2 k3 k4 k5 k6 k7 k8 k9 k10 k11) | (go_at_call 85; refine (require_ok _).mono ?_; rintro e w9 ⟨rfl, rfl⟩))
    have hFin := hCy.storeAll ⟨x0, k, 0, true, 0, 0, 0, 0, 0, 0, none, 0, 0, ⟨#[]⟩⟩
    have hWF := grown_store (grown_below hWx hb9) (C := W.heap.size) (Nat.le_refl _) ⟨x0, k, 0, true, 0, 0, 0, 0, 0, 0, none, 0, 0, ⟨#[]⟩⟩
    clear y0 y1 y2 y3 y4 y5 y6 y7 y8 y9 y10 y11 k0 k1 k2 k3 k4 k5 k6 k7 k8 k9 k10 k11 kf hBy hCy
    dsimp only [store12] at hFin hWF
    generalize World.setCell _ _ _ = wF at hFin hWF ⊢
    obtain ⟨y0, y1, y2, y3, y4, y5, y6, y7, y8, y9, y10, y11⟩ := hFin.cell
    dsimp only at y0 y1 y2 y3 y4 y5 y6 y7 y8 y9 y10 y11
    refine bodyPost_ret (v := Pkt.val ⟨x0, k, 0, true, 0, 0, 0, 0, 0, 0, none, 0, 0, ⟨#[]⟩⟩) (by simp [results, Tryz.results56, go_sem, y0, y1, y2, y3, y4, y5, y6, y7, y8, y9, y10, y11]) rfl ?_
    exact ⟨hWF, .inl ⟨hisF.trans hg, _, rfl, _, _, _, _, _, _, none, 0, rfl, by rw [hpk], by rw [hpk]; simp [lsOf, hne'.out.2.2.1], fun j hj => absurd hj (by simp [lsOf, hne'.out.2.2.1]), fun b hb => by cases hb⟩⟩
end Go.Proofs.YtakaadcpaeiccabGreat

namespace Go.Proofs.YtakaadcpaeiccabGreat
open Go.RowKit

theorem isF_flag {a b c : Int} {r : List Int} (h0 : (c == 0) = false) (h8 : (c == 8) = false) : isF (a :: b :: c :: r) = false := by
  match r with
  | [] => rfl
  | [_] => rfl
  | z :: n :: r => simp_all [isF]
theorem isF_zero {a b c z : Int} {r : List Int} (h0 : (z == 0) = false) : isF (a :: b :: c :: z :: r) = false := by
  match r with
  | [] => rfl
  | n :: r => simp_all [isF]

set_option maxRecDepth 100000 in
set_option maxHeartbeats 4000000 in
theorem packet_s0 (R : Nat) (W : World) (hr : Rd R [] W) :
    Calls Tryz.prog 56 #[.pointer (some ⟨R, 0, none⟩)] W fun e w' => PacketP R [] W e w' := by
  have hR := hr.lt
  go_enter Tryz.func56, Tryz.ntmps56
  go_wp2_with fail
  have h1 := hr.alloc Pkt.zero.box
  have hW0 := World.grownBy_alloc W Pkt.zero.box (some R)
  dsimp only [Pkt.box, Pkt.zero] at h1 hW0
  clear hr
  refine (one_nil R _ h1).mono ?_
  rintro e w9 ⟨rfl, rfl⟩
  exact ⟨rfl, hW0, .inr ⟨rfl, rfl⟩⟩

set_option maxRecDepth 100000 in
set_option maxHeartbeats 4000000 in
theorem packet_s1 (R : Nat) (a : Int) (W : World) (hr : Rd R [a] W) :
    Calls Tryz.prog 56 #[.pointer (some ⟨R, 0, none⟩)] W fun e w' => PacketP R [a] W e w' := by
  have hR := hr.lt
  go_enter Tryz.func56, Tryz.ntmps56
  go_wp2_with fail
  have h1 := hr.alloc Pkt.zero.box
  have hW0 := World.grownBy_alloc W Pkt.zero.box (some R)
  dsimp only [Pkt.box, Pkt.zero] at h1 hW0
  clear hr
  refine (one_cons R _ _ _ h1).mono ?_
  rintro e w1 ⟨rfl, hr1, hg1⟩
  have hW1 := grown_trans hW0 hg1
  clear h1 hg1 hW0
  go_wp2_with fail
  refine (one_nil R _ hr1).mono ?_
  rintro e w9 ⟨rfl, rfl⟩
  exact ⟨rfl, hW1, .inr ⟨rfl, rfl⟩⟩

set_option maxRecDepth 100000 in
set_option maxHeartbeats 4000000 in
theorem packet_s2 (R : Nat) (a b : Int) (W : World) (hr : Rd R [a, b] W) :
    Calls Tryz.prog 56 #[.pointer (some ⟨R, 0, none⟩)] W fun e w' => PacketP R [a, b] W e w' := by
  have hR := hr.lt
  go_enter Tryz.func56, Tryz.ntmps56
  go_wp2_with fail
  have h1 := hr.alloc Pkt.zero.box
  have hW0 := World.grownBy_alloc W Pkt.zero.box (some R)
  dsimp only [Pkt.box, Pkt.zero] at h1 hW0
  clear hr
  refine (one_cons R _ _ _ h1).mono ?_
  rintro e w1 ⟨rfl, hr1, hg1⟩
  have hW1 := grown_trans hW0 hg1
  clear h1 hg1 hW0
  go_wp2_with fail
  refine (one_cons R _ _ _ hr1).mono ?_
  rintro e w2 ⟨rfl, hr2, hg2⟩
  have hW2 := grown_trans hW1 hg2
  clear hr1 hg2 hW1
  go_wp2_with fail
  have hB := PB.new ⟨a, b, 0, false, 0, 0, 0, 0, 0, 0, none, 0, 0, ⟨#[]⟩⟩ w2
  have hr3 := hr2.alloc (Pkt.box ⟨a, b, 0, false, 0, 0, 0, 0, 0, 0, none, 0, 0, ⟨#[]⟩⟩)
  have hW3 := grown_trans hW2 (World.grownBy_alloc w2 (Pkt.box ⟨a, b, 0, false, 0, 0, 0, 0, 0, 0, none, 0, 0, ⟨#[]⟩⟩) (some R))
  have hRB := hr2.lt
  have hWs := hW2.size
  generalize hBB : w2.heap.size = B at hB hRB hWs ⊢
  clear hBB
  dsimp only [Pkt.box] at hB hr3 hW3
  clear hr2 hW2
  refine (one_nil R _ hr3).mono ?_
  rintro e w9 ⟨rfl, rfl⟩
  exact ⟨rfl, hW3, .inr ⟨rfl, rfl⟩⟩

set_option maxRecDepth 100000 in
set_option maxHeartbeats 4000000 in
theorem packet_sf (R : Nat) (a b c : Int) (r : List Int) (hc0 : (c == 0) = false) (hc8 : (c == 8) = false) (W : World) (hr : Rd R (a :: b :: c :: r) W) :
    Calls Tryz.prog 56 #[.pointer (some ⟨R, 0, none⟩)] W fun e w' => PacketP R (a :: b :: c :: r) W e w' := by
  have hR := hr.lt
  go_enter Tryz.func56, Tryz.ntmps56
  go_wp2_with fail
  have h1 := hr.alloc Pkt.zero.box
  have hW0 := World.grownBy_alloc W Pkt.zero.box (some R)
  dsimp only [Pkt.box, Pkt.zero] at h1 hW0
  clear hr
  refine (one_cons R _ _ _ h1).mono ?_
  rintro e w1 ⟨rfl, hr1, hg1⟩
  have hW1 := grown_trans hW0 hg1
  clear h1 hg1 hW0
  go_wp2_with fail
  refine (one_cons R _ _ _ hr1).mono ?_
  rintro e w2 ⟨rfl, hr2, hg2⟩
  have hW2 := grown_trans hW1 hg2
  clear hr1 hg2 hW1
  go_wp2_with fail
  have hB := PB.new ⟨a, b, 0, false, 0, 0, 0, 0, 0, 0, none, 0, 0, ⟨#[]⟩⟩ w2
  have hr3 := hr2.alloc (Pkt.box ⟨a, b, 0, false, 0, 0, 0, 0, 0, 0, none, 0, 0, ⟨#[]⟩⟩)
  have hW3 := grown_trans hW2 (World.grownBy_alloc w2 (Pkt.box ⟨a, b, 0, false, 0, 0, 0, 0, 0, 0, none, 0, 0, ⟨#[]⟩⟩) (some R))
  have hRB := hr2.lt
  have hWs := hW2.size
  generalize hBB : w2.heap.size = B at hB hRB hWs ⊢
  clear hBB
  dsimp only [Pkt.box] at hB hr3 hW3
  clear hr2 hW2
  refine (one_cons R _ _ _ hr3).mono ?_
  rintro e w4 ⟨rfl, hr4, hg4⟩
  have hB4 := hB.grown hg4 (by omega)
  have hW4 := grown_trans hW3 hg4
  clear hr3 hg4 hB hW3
  go_wp2_with (go_at_call 85; refine (require_no _).mono ?_; rintro e w9 ⟨rfl, hww⟩; rw [hww])
  exact ⟨rfl, hW4, .inr ⟨isF_flag hc0 hc8, rfl⟩⟩

end Go.Proofs.YtakaadcpaeiccabGreat

namespace Go.Proofs.YtakaadcpaeiccabGreat
open Go.RowKit

set_option maxRecDepth 100000 in
set_option maxHeartbeats 4000000 in
theorem packet_s3f (R : Nat) (a b : Int) (W : World) (hr : Rd R [a, b, 0] W) :
    Calls Tryz.prog 56 #[.pointer (some ⟨R, 0, none⟩)] W fun e w' => PacketP R [a, b, 0] W e w' := by
  have hR := hr.lt
  go_enter Tryz.func56, Tryz.ntmps56
  go_wp2_with fail
  have h1 := hr.alloc Pkt.zero.box
  have hW0 := World.grownBy_alloc W Pkt.zero.box (some R)
  dsimp only [Pkt.box, Pkt.zero] at h1 hW0
  clear hr
  refine (one_cons R _ _ _ h1).mono ?_
  rintro e w1 ⟨rfl, hr1, hg1⟩
  have hW1 := grown_trans hW0 hg1
  clear h1 hg1 hW0
  go_wp2_with fail
  refine (one_cons R _ _ _ hr1).mono ?_
  rintro e w2 ⟨rfl, hr2, hg2⟩
  have hW2 := grown_trans hW1 hg2
  clear hr1 hg2 hW1
  go_wp2_with fail
  have hB := PB.new ⟨a, b, 0, false, 0, 0, 0, 0, 0, 0, none, 0, 0, ⟨#[]⟩⟩ w2
  have hr3 := hr2.alloc (Pkt.box ⟨a, b, 0, false, 0, 0, 0, 0, 0, 0, none, 0, 0, ⟨#[]⟩⟩)
  have hW3 := grown_trans hW2 (World.grownBy_alloc w2 (Pkt.box ⟨a, b, 0, false, 0, 0, 0, 0, 0, 0, none, 0, 0, ⟨#[]⟩⟩) (some R))
  have hRB := hr2.lt
  have hWs := hW2.size
  generalize hBB : w2.heap.size = B at hB hRB hWs ⊢
  clear hBB
  dsimp only [Pkt.box] at hB hr3 hW3
  clear hr2 hW2
  refine (one_cons R _ _ _ hr3).mono ?_
  rintro e w4 ⟨rfl, hr4, hg4⟩
  have hB4 := hB.grown hg4 (by omega)
  have hW4 := grown_trans hW3 hg4
  clear hr3 hg4 hB hW3
  go_wp2_with (go_at_call 85; refine (require_ok _).mono ?_; rintro e w4 ⟨rfl, rfl⟩; obtain ⟨_, _, _, c3, _, _, _, _, _, _, _, _⟩ := hB4.cell; have f3 := hB4.free 3)
  have hr5 := hr4.setCell (B := B) (by omega) (i := 3) (.bool false) (.bool false) (by simp) c3
  have hW5 := grown_new hW4 (a := ⟨B, 3, none⟩) (by simp; omega) (.bool false)
  clear c3 f3 hr4 hB4 hW4
  generalize w4.setCell _ _ = w5 at hr5 hW5 ⊢
  refine (one_nil R _ hr5).mono ?_
  rintro e w9 ⟨rfl, rfl⟩
  exact ⟨rfl, hW5, .inr ⟨rfl, rfl⟩⟩

set_option maxRecDepth 100000 in
set_option maxHeartbeats 4000000 in
theorem packet_szf (R : Nat) (a b z : Int) (r : List Int) (hz : (z == 0) = false) (W : World) (hr : Rd R (a :: b :: 0 :: z :: r) W) :
    Calls Tryz.prog 56 #[.pointer (some ⟨R, 0, none⟩)] W fun e w' => PacketP R (a :: b :: 0 :: z :: r) W e w' := by
  have hR := hr.lt
  go_enter Tryz.func56, Tryz.ntmps56
  go_wp2_with fail
  have h1 := hr.alloc Pkt.zero.box
  have hW0 := World.grownBy_alloc W Pkt.zero.box (some R)
  dsimp only [Pkt.box, Pkt.zero] at h1 hW0
  clear hr
  refine (one_cons R _ _ _ h1).mono ?_
  rintro e w1 ⟨rfl, hr1, hg1⟩
  have hW1 := grown_trans hW0 hg1
  clear h1 hg1 hW0
  go_wp2_with fail
  refine (one_cons R _ _ _ hr1).mono ?_
  rintro e w2 ⟨rfl, hr2, hg2⟩
  have hW2 := grown_trans hW1 hg2
  clear hr1 hg2 hW1
  go_wp2_with fail
  have hB := PB.new ⟨a, b, 0, false, 0, 0, 0, 0, 0, 0, none, 0, 0, ⟨#[]⟩⟩ w2
  have hr3 := hr2.alloc (Pkt.box ⟨a, b, 0, false, 0, 0, 0, 0, 0, 0, none, 0, 0, ⟨#[]⟩⟩)
  have hW3 := grown_trans hW2 (World.grownBy_alloc w2 (Pkt.box ⟨a, b, 0, false, 0, 0, 0, 0, 0, 0, none, 0, 0, ⟨#[]⟩⟩) (some R))
  have hRB := hr2.lt
  have hWs := hW2.size
  generalize hBB : w2.heap.size = B at hB hRB hWs ⊢
  clear hBB
  dsimp only [Pkt.box] at hB hr3 hW3
  clear hr2 hW2
  refine (one_cons R _ _ _ hr3).mono ?_
  rintro e w4 ⟨rfl, hr4, hg4⟩
  have hB4 := hB.grown hg4 (by omega)
  have hW4 := grown_trans hW3 hg4
  clear hr3 hg4 hB hW3
  go_wp2_with (go_at_call 85; refine (require_ok _).mono ?_; rintro e w4 ⟨rfl, rfl⟩; obtain ⟨_, _, _, c3, _, _, _, _, _, _, _, _⟩ := hB4.cell; have f3 := hB4.free 3)
  have hr5 := hr4.setCell (B := B) (by omega) (i := 3) (.bool false) (.bool false) (by simp) c3
  have hW5 := grown_new hW4 (a := ⟨B, 3, none⟩) (by simp; omega) (.bool false)
  clear c3 f3 hr4 hB4 hW4
  generalize w4.setCell _ _ = w5 at hr5 hW5 ⊢
  refine (one_cons R _ _ _ hr5).mono ?_
  rintro e w6 ⟨rfl, hr6, hg6⟩
  have hW6 := grown_trans hW5 hg6
  clear hr5 hg6 hW5
  go_wp2_with (go_at_call 85; refine (require_no _).mono ?_; rintro e w9 ⟨rfl, hww⟩; rw [hww])
  exact ⟨rfl, hW6, .inr ⟨isF_zero hz, rfl⟩⟩

set_option maxRecDepth 100000 in
set_option maxHeartbeats 4000000 in
theorem packet_s4f (R : Nat) (a b : Int) (W : World) (hr : Rd R [a, b, 0, 0] W) :
    Calls Tryz.prog 56 #[.pointer (some ⟨R, 0, none⟩)] W fun e w' => PacketP R [a, b, 0, 0] W e w' := by
  have hR := hr.lt
  go_enter Tryz.func56, Tryz.ntmps56
  go_wp2_with fail
  have h1 := hr.alloc Pkt.zero.box
  have hW0 := World.grownBy_alloc W Pkt.zero.box (some R)
  dsimp only [Pkt.box, Pkt.zero] at h1 hW0
  clear hr
  refine (one_cons R _ _ _ h1).mono ?_
  rintro e w1 ⟨rfl, hr1, hg1⟩
  have hW1 := grown_trans hW0 hg1
  clear h1 hg1 hW0
  go_wp2_with fail
  refine (one_cons R _ _ _ hr1).mono ?_
  rintro e w2 ⟨rfl, hr2, hg2⟩
  have hW2 := grown_trans hW1 hg2
  clear hr1 hg2 hW1
  go_wp2_with fail
  have hB := PB.new ⟨a, b, 0, false, 0, 0, 0, 0, 0, 0, none, 0, 0, ⟨#[]⟩⟩ w2
  have hr3 := hr2.alloc (Pkt.box ⟨a, b, 0, false, 0, 0, 0, 0, 0, 0, none, 0, 0, ⟨#[]⟩⟩)
  have hW3 := grown_trans hW2 (World.grownBy_alloc w2 (Pkt.box ⟨a, b, 0, false, 0, 0, 0, 0, 0, 0, none, 0, 0, ⟨#[]⟩⟩) (some R))
  have hRB := hr2.lt
  have hWs := hW2.size
  generalize hBB : w2.heap.size = B at hB hRB hWs ⊢
  clear hBB
  dsimp only [Pkt.box] at hB hr3 hW3
  clear hr2 hW2
  refine (one_cons R _ _ _ hr3).mono ?_
  rintro e w4 ⟨rfl, hr4, hg4⟩
  have hB4 := hB.grown hg4 (by omega)
  have hW4 := grown_trans hW3 hg4
  clear hr3 hg4 hB hW3
  go_wp2_with (go_at_call 85; refine (require_ok _).mono ?_; rintro e w4 ⟨rfl, rfl⟩; obtain ⟨_, _, _, c3, _, _, _, _, _, _, _, _⟩ := hB4.cell; have f3 := hB4.free 3)
  have hr5 := hr4.setCell (B := B) (by omega) (i := 3) (.bool false) (.bool false) (by simp) c3
  have hW5 := grown_new hW4 (a := ⟨B, 3, none⟩) (by simp; omega) (.bool false)
  clear c3 f3 hr4 hB4 hW4
  generalize w4.setCell _ _ = w5 at hr5 hW5 ⊢
  refine (one_cons R _ _ _ hr5).mono ?_
  rintro e w6 ⟨rfl, hr6, hg6⟩
  have hW6 := grown_trans hW5 hg6
  clear hr5 hg6 hW5
  go_wp2_with (go_at_call 85; refine (require_ok _).mono ?_; rintro e w6 ⟨rfl, rfl⟩)
  refine (one_nil R _ hr6).mono ?_
  rintro e w9 ⟨rfl, rfl⟩
  exact ⟨rfl, hW6, .inr ⟨rfl, rfl⟩⟩

set_option maxRecDepth 100000 in
set_option maxHeartbeats 4000000 in
theorem packet_s3t (R : Nat) (a b : Int) (W : World) (hr : Rd R [a, b, 8] W) :
    Calls Tryz.prog 56 #[.pointer (some ⟨R, 0, none⟩)] W fun e w' => PacketP R [a, b, 8] W e w' := by
  have hR := hr.lt
  go_enter Tryz.func56, Tryz.ntmps56
  go_wp2_with fail
  have h1 := hr.alloc Pkt.zero.box
  have hW0 := World.grownBy_alloc W Pkt.zero.box (some R)
  dsimp only [Pkt.box, Pkt.zero] at h1 hW0
  clear hr
  refine (one_cons R _ _ _ h1).mono ?_
  rintro e w1 ⟨rfl, hr1, hg1⟩
  have hW1 := grown_trans hW0 hg1
  clear h1 hg1 hW0
  go_wp2_with fail
  refine (one_cons R _ _ _ hr1).mono ?_
  rintro e w2 ⟨rfl, hr2, hg2⟩
  have hW2 := grown_trans hW1 hg2
  clear hr1 hg2 hW1
  go_wp2_with fail
  have hB := PB.new ⟨a, b, 0, false, 0, 0, 0, 0, 0, 0, none, 0, 0, ⟨#[]⟩⟩ w2
  have hr3 := hr2.alloc (Pkt.box ⟨a, b, 0, false, 0, 0, 0, 0, 0, 0, none, 0, 0, ⟨#[]⟩⟩)
  have hW3 := grown_trans hW2 (World.grownBy_alloc w2 (Pkt.box ⟨a, b, 0, false, 0, 0, 0, 0, 0, 0, none, 0, 0, ⟨#[]⟩⟩) (some R))
  have hRB := hr2.lt
  have hWs := hW2.size
  generalize hBB : w2.heap.size = B at hB hRB hWs ⊢
  clear hBB
  dsimp only [Pkt.box] at hB hr3 hW3
  clear hr2 hW2
  refine (one_cons R _ _ _ hr3).mono ?_
  rintro e w4 ⟨rfl, hr4, hg4⟩
  have hB4 := hB.grown hg4 (by omega)
  have hW4 := grown_trans hW3 hg4
  clear hr3 hg4 hB hW3
  go_wp2_with (go_at_call 85; refine (require_ok _).mono ?_; rintro e w4 ⟨rfl, rfl⟩; obtain ⟨_, _, _, c3, _, _, _, _, _, _, _, _⟩ := hB4.cell; have f3 := hB4.free 3)
  have hr5 := hr4.setCell (B := B) (by omega) (i := 3) (.bool false) (.bool true) (by simp) c3
  have hW5 := grown_new hW4 (a := ⟨B, 3, none⟩) (by simp; omega) (.bool true)
  clear c3 f3 hr4 hB4 hW4
  generalize w4.setCell _ _ = w5 at hr5 hW5 ⊢
  refine (one_nil R _ hr5).mono ?_
  rintro e w9 ⟨rfl, rfl⟩
  exact ⟨rfl, hW5, .inr ⟨rfl, rfl⟩⟩

set_option maxRecDepth 100000 in
set_option maxHeartbeats 4000000 in
theorem packet_szt (R : Nat) (a b z : Int) (r : List Int) (hz : (z == 0) = false) (W : World) (hr : Rd R (a :: b :: 8 :: z :: r) W) :
    Calls Tryz.prog 56 #[.pointer (some ⟨R, 0, none⟩)] W fun e w' => PacketP R (a :: b :: 8 :: z :: r) W e w' := by
  have hR := hr.lt
  go_enter Tryz.func56, Tryz.ntmps56
  go_wp2_with fail
  have h1 := hr.alloc Pkt.zero.box
  have hW0 := World.grownBy_alloc W Pkt.zero.box (some R)
  dsimp only [Pkt.box, Pkt.zero] at h1 hW0
  clear hr
  refine (one_cons R _ _ _ h1).mono ?_
  rintro e w1 ⟨rfl, hr1, hg1⟩
  have hW1 := grown_trans hW0 hg1
  clear h1 hg1 hW0
  go_wp2_with fail
  refine (one_cons R _ _ _ hr1).mono ?_
  rintro e w2 ⟨rfl, hr2, hg2⟩
  have hW2 := grown_trans hW1 hg2
  clear hr1 hg2 hW1
  go_wp2_with fail
  have hB := PB.new ⟨a, b, 0, false, 0, 0, 0, 0, 0, 0, none, 0, 0, ⟨#[]⟩⟩ w2
  have hr3 := hr2.alloc (Pkt.box ⟨a, b, 0, false, 0, 0, 0, 0, 0, 0, none, 0, 0, ⟨#[]⟩⟩)
  have hW3 := grown_trans hW2 (World.grownBy_alloc w2 (Pkt.box ⟨a, b, 0, false, 0, 0, 0, 0, 0, 0, none, 0, 0, ⟨#[]⟩⟩) (some R))
  have hRB := hr2.lt
  have hWs := hW2.size
  generalize hBB : w2.heap.size = B at hB hRB hWs ⊢
  clear hBB
  dsimp only [Pkt.box] at hB hr3 hW3
  clear hr2 hW2
  refine (one_cons R _ _ _ hr3).mono ?_
  rintro e w4 ⟨rfl, hr4, hg4⟩
  have hB4 := hB.grown hg4 (by omega)
  have hW4 := grown_trans hW3 hg4
  clear hr3 hg4 hB hW3
  go_wp2_with (go_at_call 85; refine (require_ok _).mono ?_; rintro e w4 ⟨rfl, rfl⟩; obtain ⟨_, _, _, c3, _, _, _, _, _, _, _, _⟩ := hB4.cell; have f3 := hB4.free 3)
  have hr5 := hr4.setCell (B := B) (by omega) (i := 3) (.bool false) (.bool true) (by simp) c3
  have hW5 := grown_new hW4 (a := ⟨B, 3, none⟩) (by simp; omega) (.bool true)
  clear c3 f3 hr4 hB4 hW4
  generalize w4.setCell _ _ = w5 at hr5 hW5 ⊢
  refine (one_cons R _ _ _ hr5).mono ?_
  rintro e w6 ⟨rfl, hr6, hg6⟩
  have hW6 := grown_trans hW5 hg6
  clear hr5 hg6 hW5
  go_wp2_with (go_at_call 85; refine (require_no _).mono ?_; rintro e w9 ⟨rfl, hww⟩; rw [hww])
  exact ⟨rfl, hW6, .inr ⟨isF_zero hz, rfl⟩⟩

set_option maxRecDepth 100000 in
set_option maxHeartbeats 4000000 in
theorem packet_s4t (R : Nat) (a b : Int) (W : World) (hr : Rd R [a, b, 8, 0] W) :
    Calls Tryz.prog 56 #[.pointer (some ⟨R, 0, none⟩)] W fun e w' => PacketP R [a, b, 8, 0] W e w' := by
  have hR := hr.lt
  go_enter Tryz.func56, Tryz.ntmps56
  go_wp2_with fail
  have h1 := hr.alloc Pkt.zero.box
  have hW0 := World.grownBy_alloc W Pkt.zero.box (some R)
  dsimp only [Pkt.box, Pkt.zero] at h1 hW0
  clear hr
  refine (one_cons R _ _ _ h1).mono ?_
  rintro e w1 ⟨rfl, hr1, hg1⟩
  have hW1 := grown_trans hW0 hg1
  clear h1 hg1 hW0
  go_wp2_with fail
  refine (one_cons R _ _ _ hr1).mono ?_
  rintro e w2 ⟨rfl, hr2, hg2⟩
  have hW2 := grown_trans hW1 hg2
  clear hr1 hg2 hW1
  go_wp2_with fail
  have hB := PB.new ⟨a, b, 0, false, 0, 0, 0, 0, 0, 0, none, 0, 0, ⟨#[]⟩⟩ w2
  have hr3 := hr2.alloc (Pkt.box ⟨a, b, 0, false, 0, 0, 0, 0, 0, 0, none, 0, 0, ⟨#[]⟩⟩)
  have hW3 := grown_trans hW2 (World.grownBy_alloc w2 (Pkt.box ⟨a, b, 0, false, 0, 0, 0, 0, 0, 0, none, 0, 0, ⟨#[]⟩⟩) (some R))
  have hRB := hr2.lt
  have hWs := hW2.size
  generalize hBB : w2.heap.size = B at hB hRB hWs ⊢
  clear hBB
  dsimp only [Pkt.box] at hB hr3 hW3
  clear hr2 hW2
  refine (one_cons R _ _ _ hr3).mono ?_
  rintro e w4 ⟨rfl, hr4, hg4⟩
  have hB4 := hB.grown hg4 (by omega)
  have hW4 := grown_trans hW3 hg4
  clear hr3 hg4 hB hW3
  go_wp2_with (go_at_call 85; refine (require_ok _).mono ?_; rintro e w4 ⟨rfl, rfl⟩; obtain ⟨_, _, _, c3, _, _, _, _, _, _, _, _⟩ := hB4.cell; have f3 := hB4.free 3)
  have hr5 := hr4.setCell (B := B) (by omega) (i := 3) (.bool false) (.bool true) (by simp) c3
  have hW5 := grown_new hW4 (a := ⟨B, 3, none⟩) (by simp; omega) (.bool true)
  clear c3 f3 hr4 hB4 hW4
  generalize w4.setCell _ _ = w5 at hr5 hW5 ⊢
  refine (one_cons R _ _ _ hr5).mono ?_
  rintro e w6 ⟨rfl, hr6, hg6⟩
  have hW6 := grown_trans hW5 hg6
  clear hr5 hg6 hW5
  go_wp2_with (go_at_call 85; refine (require_ok _).mono ?_; rintro e w6 ⟨rfl, rfl⟩)
  refine (one_nil R _ hr6).mono ?_
  rintro e w9 ⟨rfl, rfl⟩
  exact ⟨rfl, hW6, .inr ⟨rfl, rfl⟩⟩

end Go.Proofs.YtakaadcpaeiccabGreat

namespace Go.Proofs.YtakaadcpaeiccabGreat
open Go.RowKit

/-- Reading a packet, whatever the bytes. -/
theorem packet_any (R : Nat) (xs : List Int) (W : World) (hr : Rd R xs W) :
    Calls Tryz.prog 56 #[.pointer (some ⟨R, 0, none⟩)] W fun e w' => PacketP R xs W e w' := by
  match xs, hr with
  | [], hr => exact packet_s0 R W hr
  | [a], hr => exact packet_s1 R a W hr
  | [a, b], hr => exact packet_s2 R a b W hr
  | a :: b :: c :: r, hr =>
    by_cases h0 : c = 0
    · subst h0
      match r, hr with
      | [], hr => exact packet_s3f R a b W hr
      | z :: r, hr =>
        by_cases hz : z = 0
        · subst hz
          match r, hr with
          | [], hr => exact packet_s4f R a b W hr
          | n :: r, hr =>
            have hn := hr.bytes n (by simp)
            obtain ⟨m, rfl⟩ := Int.eq_ofNat_of_zero_le hn.1
            by_cases h1 : b = 1
            · subst h1; exact packet_1f R a m r W hr
            by_cases h2 : b = 2
            · subst h2; exact packet_2f R a m r W hr
            by_cases h3 : b = 3
            · subst h3; exact packet_3f R a m r W hr
            by_cases h9 : b = 9
            · subst h9; exact packet_9f R a m r W hr
            exact packet_0f R a m r W b (by simpa using h1) (by simpa using h2) (by simpa using h3) (by simpa using h9) hr
        · exact packet_szf R a b z r (by simpa using hz) W hr
    by_cases h8 : c = 8
    · subst h8
      match r, hr with
      | [], hr => exact packet_s3t R a b W hr
      | z :: r, hr =>
        by_cases hz : z = 0
        · subst hz
          match r, hr with
          | [], hr => exact packet_s4t R a b W hr
          | n :: r, hr =>
            have hn := hr.bytes n (by simp)
            obtain ⟨m, rfl⟩ := Int.eq_ofNat_of_zero_le hn.1
            by_cases h1 : b = 1
            · subst h1; exact packet_1t R a m r W hr
            by_cases h2 : b = 2
            · subst h2; exact packet_2t R a m r W hr
            by_cases h3 : b = 3
            · subst h3; exact packet_3t R a m r W hr
            by_cases h9 : b = 9
            · subst h9; exact packet_9t R a m r W hr
            exact packet_0t R a m r W b (by simpa using h1) (by simpa using h2) (by simpa using h3) (by simpa using h9) hr
        · exact packet_szt R a b z r (by simpa using hz) W hr
    · exact packet_sf R a b c r (by simpa using h0) (by simpa using h8) W hr
end Go.Proofs.YtakaadcpaeiccabGreat

namespace Go.Proofs.YtakaadcpaeiccabGreat

theorem b4_n4 {a b c d : Int} (hb : 0 ≤ b ∧ b ≤ 255) (hc : 0 ≤ c ∧ c ≤ 255) (hd : 0 ≤ d ∧ d ≤ 255) : b4 (n4 a b c d) = [a, b, c, d] := by
  unfold b4 n4
  simp only [List.cons.injEq, and_true]
  omega
/-- Four bytes of a list spell a number, and the number the bytes. -/
theorem b4_num {r : List Int} (hb : ∀ x ∈ r, 0 ≤ x ∧ x ≤ 255) (k : Nat) (h : 4 * k + 4 ≤ r.length) : b4 (num r k) = (r.drop (4 * k)).take 4 := by
  have hx : ∀ j, 4 * k + j < r.length → r.getD (4 * k + j) 0 = (r.drop (4 * k)).getD j 0 := by
    intro j _
    simp [List.getD, List.getElem?_drop]
  have hbd : ∀ x ∈ r.drop (4 * k), 0 ≤ x ∧ x ≤ 255 := fun x hx => hb x (List.mem_of_mem_drop hx)
  have hl : (r.drop (4 * k)).length = r.length - 4 * k := List.length_drop
  unfold num
  rw [show 4 * k = 4 * k + 0 from rfl, hx 0 (by omega), hx 1 (by omega), hx 2 (by omega), hx 3 (by omega), Nat.add_zero]
  generalize r.drop (4 * k) = q at hbd hl
  match q, hl, hbd with
  | [], hl, _ => simp at hl; omega
  | [_], hl, _ => simp at hl; omega
  | [_, _], hl, _ => simp at hl; omega
  | [_, _, _], hl, _ => simp at hl; omega
  | a :: b :: c :: d :: q, _, hbd =>
    show b4 (n4 a b c d) = [a, b, c, d]
    exact b4_n4 (hbd b (by simp)) (hbd c (by simp)) (hbd d (by simp))

theorem take_more (r : List Int) (n : Nat) : r.take n ++ (r.drop n).take 4 = r.take (n + 4) := by
  rw [List.take_add]

theorem lostB_plOf {r : List Int} (hb : ∀ x ∈ r, 0 ≤ x ∧ x ≤ 255) (n : Nat) (h : 8 * n ≤ r.length) : ((plOf n r).flatMap fun x => b4 x.1 ++ b4 x.2) = r.take (8 * n) := by
  induction n with
  | zero => rfl
  | succ n ih =>
    rw [plOf_succ, List.flatMap_append, ih (by omega)]
    simp only [List.flatMap_cons, List.flatMap_nil, List.append_nil]
    rw [b4_num hb (2 * n) (by omega), b4_num hb (2 * n + 1) (by omega), ← List.append_assoc, show 4 * (2 * n) = 8 * n by omega, take_more, show 4 * (2 * n + 1) = 8 * n + 4 by omega, take_more]
    rfl

theorem cnt_flag (p : Pkt) (a : Option Addr) (c : Nat) (L : List (Int × Int)) : encB { p with la := a, lc := c } L = encB p L := rfl

/-- What is read is written again. -/
theorem enc_pkOf {x0 x1 x2 x3 x4 : Int} {r : List Int} (hb : ∀ x ∈ x0 :: x1 :: x2 :: x3 :: x4 :: r, 0 ≤ x ∧ x ≤ 255) (h : isF (x0 :: x1 :: x2 :: x3 :: x4 :: r) = true) :
    encB (pkOf x0 x1 x2 x4 r) (lsOf x1 x4 r) = x0 :: x1 :: x2 :: x3 :: x4 :: r := by
  simp only [isF, Bool.and_eq_true, decide_eq_true_eq] at h
  obtain ⟨⟨⟨hf, rfl⟩, hlen⟩, hg⟩ := h
  obtain ⟨hl, ht0, ht1, hh0, hh1, hpay, hk⟩ := good_parts hg
  obtain ⟨e1, e2, e3, e4⟩ := like_parts hl
  have hbr : ∀ x ∈ r, 0 ≤ x ∧ x ≤ 255 := fun x hx => hb x (by simp [hx])
  have h4 := hb x4 (by simp)
  have hkk : (pkOf x0 x1 x2 x4 r).kind = x1 := by
    unfold pkOf
    split
    · rename_i h; exact h.symm
    split
    · rename_i h; exact h.symm
    split
    · rename_i h; exact h.symm
    split
    · rename_i h; exact h.symm
    · rfl
  rw [hkk] at hk
  have hfl : ∀ (b : Bool), (x2 == 8) = b → (if b then (8 : Int) else 0) = x2 := by
    intro b hb
    rcases hf with rfl | rfl
    · subst hb; rfl
    · subst hb; rfl
  rcases hk with rfl | rfl | rfl | ⟨rfl, hn0, hn1⟩
  · have hl20 : r.length = 20 := hlen
    have hall : b4 (num r 0) ++ b4 (num r 1) ++ b4 (num r 2) ++ b4 (num r 3) ++ b4 (num r 4) = r := by
      rw [b4_num hbr 0 (by omega), b4_num hbr 1 (by omega), b4_num hbr 2 (by omega), b4_num hbr 3 (by omega), b4_num hbr 4 (by omega)]
      simp only [Nat.mul_zero, List.drop_zero, Nat.mul_one, Nat.reduceMul, take_more, Nat.reduceAdd]
      exact List.take_of_length_le (by omega)
    show [x0, 1, (if (x2 == 8) then (8 : Int) else 0), 0, x4] ++ (b4 (num r 0) ++ (b4 (num r 1) ++ (b4 (num r 2) ++ (b4 (num r 3) ++ (b4 (num r 4) ++ []))))) ++ [] ++ [] = _
    rw [hfl _ rfl]
    simp only [List.append_nil, List.append_assoc] at hall ⊢
    rw [hall]
    rfl
  · have hl16 : r.length = 16 := hlen
    have hall : b4 (num r 0) ++ b4 (num r 1) ++ b4 (num r 2) ++ b4 (num r 3) = r := by
      rw [b4_num hbr 0 (by omega), b4_num hbr 1 (by omega), b4_num hbr 2 (by omega), b4_num hbr 3 (by omega)]
      simp only [Nat.mul_zero, List.drop_zero, Nat.mul_one, Nat.reduceMul, take_more, Nat.reduceAdd]
      exact List.take_of_length_le (by omega)
    show [x0, 2, (if (x2 == 8) then (8 : Int) else 0), 0, x4] ++ (b4 (num r 0) ++ (b4 (num r 1) ++ (b4 (num r 2) ++ (b4 (num r 3) ++ [])))) ++ [] ++ [] = _
    rw [hfl _ rfl]
    simp only [List.append_nil, List.append_assoc] at hall ⊢
    rw [hall]
    rfl
  · have hl9 : r.length = 12 + x4.toNat := hlen
    have hall : b4 (num r 0) ++ b4 (num r 1) ++ b4 (num r 2) = r.take 12 := by
      rw [b4_num hbr 0 (by omega), b4_num hbr 1 (by omega), b4_num hbr 2 (by omega)]
      simp only [Nat.mul_zero, List.drop_zero, Nat.mul_one, Nat.reduceMul, take_more, Nat.reduceAdd]
    have hdt : (r.drop 12).take x4.toNat = r.drop 12 := List.take_of_length_le (by rw [List.length_drop]; omega)
    have hpb : strNums (strOfNums (r.drop 12)) = r.drop 12 := by
      have hq : ∀ q : List Int, (∀ x ∈ q, 0 ≤ x ∧ x ≤ 255) → strNums (strOfNums q) = q := by
        intro q hq
        simp only [strNums, strOfNums_data, List.map_map]
        conv => rhs; rw [← List.map_id q]
        refine List.map_congr_left fun x hx => ?_
        have := hq x hx
        simp only [Function.comp_apply, id]
        have hlt : x.toNat < 256 := by omega
        rw [UInt8.toNat_ofNat', Nat.mod_eq_of_lt (by omega)]
        omega
      exact hq _ fun x hx => hbr x (List.mem_of_mem_drop hx)
    show [x0, 9, (if (x2 == 8) then (8 : Int) else 0), 0, ((strOfNums ((r.drop 12).take x4.toNat)).size : Int)] ++ (b4 (num r 0) ++ (b4 (num r 1) ++ (b4 (num r 2) ++ []))) ++ [] ++ strNums (strOfNums ((r.drop 12).take x4.toNat)) = _
    rw [hfl _ rfl, hdt, hpb, strOfNums_size, List.length_drop, show ((r.length - 12 : Nat) : Int) = x4 by omega]
    simp only [List.append_nil, List.append_assoc] at hall ⊢
    rw [← List.append_assoc (b4 (num r 1)), ← List.append_assoc (b4 (num r 0)), hall]
    simp
  · have hl3 : r.length = 8 * x4.toNat := hlen
    have hall := lostB_plOf hbr x4.toNat (by omega)
    rw [List.take_of_length_le (by omega)] at hall
    have hlost : lostB (plOf x4.toNat r) (plOf x4.toNat r).length = r := by
      unfold lostB
      rw [List.take_of_length_le (Nat.le_refl _)]
      exact hall
    show [x0, 3, (if (x2 == 8) then (8 : Int) else 0), 0, ((x4.toNat : Nat) : Int)] ++ [] ++ lostB (plOf x4.toNat r) (plOf x4.toNat r).length ++ [] = _
    rw [hfl _ rfl, hlost, show ((x4.toNat : Nat) : Int) = x4 by omega]
    simp
end Go.Proofs.YtakaadcpaeiccabGreat

namespace Go.Proofs.YtakaadcpaeiccabGreat
open Go.RowKit

end Go.Proofs.YtakaadcpaeiccabGreat

namespace Go.Proofs.YtakaadcpaeiccabGreat
open Go.RowKit

theorem Decode_any (v : Value) (xs : List Int) (W : World) (hv : RestV W v xs) :
    Calls Tryz.prog 22 #[v] W fun e w' => DecodeP xs W e w' := Decode_of packet_any v xs W hv
end Go.Proofs.YtakaadcpaeiccabGreat

namespace Go.Proofs.YtakaadcpaeiccabGreat
open Go.RowKit Go.Maps

theorem AcM.ge {B : Nat} {a : AcV} {nws : List (Bool × Int × Int)} {frs cms : List (Int × ByteArray)} {drs : List Int} {W : World} (h : AcM B (B + 1) a nws frs cms drs W) {k : Nat} (hk : AcIn B a k) : B ≤ k := by
  rcases hk with rfl | hk | hk | hk | hk
  · exact Nat.le_refl _
  · exact Nat.le_of_succ_le (h.wrt.lt k hk).1
  · exact Nat.le_of_succ_le (h.frm.lt k hk).1
  · exact Nat.le_of_succ_le (h.cam.lt k hk).1
  · exact Nat.le_of_succ_le (h.drp.lt k hk).1
theorem pk_offA (p : Pkt) : offA p.box := ⟨fun c e => (by cases e), fun c e => (by cases e), fun c e => (by cases e), fun c e => (by cases e), fun c e => (by cases e)⟩
theorem NdM.act {N : Nat} {x : NdV} {M : Nat} {ff : Int → Option Nat} {gg : Int → Value} {A : List Rt} {f : Int → Option Int} {sz : Nat} {W W' : World} (h : NdM N x M ff gg A f sz W) {B base : Nat} {a : AcV} {nws : List (Bool × Int × Int)} {frs cms : List (Int × ByteArray)} {drs : List Int} (ha : AcM B base a nws frs cms drs W) (hf : Fx (AcIn B a) W W') : NdM N x M ff gg A f sz W' :=
  h.kept hf fun _ hk _ => ha.offT hk
/-- A node in silence turns its own cell. -/
theorem NdM.setSil {N : Nat} {x : NdV} {M : Nat} {ff : Int → Option Nat} {gg : Int → Value} {A : List Rt} {f : Int → Option Int} {sz : Nat} {W : World} (h : NdM N x M ff gg A f sz W) (v : Int) : NdM N { x with sil := v } M ff gg A f sz (W.setCell ⟨N, 4, none⟩ (.int .u64 v)) ∧ W.grownBy (W.setCell ⟨N, 4, none⟩ (.int .u64 v)) (some N) := by
  have hg : W.grownBy (W.setCell ⟨N, 4, none⟩ (.int .u64 v)) (some N) := grown_cellOf (grown_self _ (some N)) 4 _
  refine ⟨⟨h.nd.setSil v, h.mo.kept hg (by simpa using Ne.symm (nd_mo h.nd h.mo)), h.tb.keptFx (S := fun k => k = N) (Fx.grown hg fun k e => by cases e; rfl) ?_, h.ne⟩, hg⟩
  rintro k rfl _
  refine ⟨fun e => ?_, _, h.nd, nd_offT x⟩
  obtain ⟨D, ⟨es, cl, hm, _⟩, _⟩ := h.tb.map
  rw [← e, show W.heap[k]? = _ from h.nd] at hm
  cases hm
end Go.Proofs.YtakaadcpaeiccabGreat
