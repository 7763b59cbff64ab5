import Derived.Test.YtmahaccaglaldaaD4b
namespace Go.Proofs.Ytmahaccaglaldaa
open Go.RowKit

set_option maxRecDepth 100000 in
set_option maxHeartbeats 8000000 in
theorem packet_0f (R : Nat) (x0 x4 : Int) (r : List Int) (W : World) (k : Int) (k1 : (k == 1) = false) (k2 : (k == 2) = false) (k3 : (k == 3) = false) (k9 : (k == 9) = false) (hr : Rd R (x0 :: k :: 0 :: 0 :: x4 :: r) W) :
    Calls Try.prog 23 #[.pointer (some ⟨R, 0, none⟩)] W fun e w' => PacketP R (x0 :: k :: 0 :: 0 :: x4 :: r) W e w' := by
  have hby := hr.bytes
  have hR := hr.lt
  go_enter Try.func23, Try.ntmps23
  go_wp2_with fail
  have hC0 := PB.new Pkt.zero W
  have h1 := hr.alloc Pkt.zero.box
  have hg0 := World.grownBy_alloc W Pkt.zero.box (some R)
  dsimp only [Pkt.box, Pkt.zero] at hC0 h1 hg0
  refine (one_cons R _ _ _ h1).mono ?_
  rintro e w1 ⟨rfl, hr1, hg1⟩
  have hC1 : PB Pkt.zero W.heap.size w1 := PB.grown hC0 hg1 (by omega)
  have hW1 := grown_trans hg0 hg1
  clear hr h1 hg0 hg1 hC0
  go_wp2_with fail
  refine (one_cons R _ _ _ hr1).mono ?_
  rintro e w2 ⟨rfl, hr2, hg2⟩
  have hC2 := hC1.grown hg2 (by omega)
  have hW2 := grown_trans hW1 hg2
  clear hr1 hg2 hC1 hW1
  go_wp2_with fail
  have hB := PB.new ⟨x0, k, 0, false, 0, 0, 0, 0, 0, 0, none, 0, 0, ⟨#[]⟩⟩ w2
  have hCB : W.heap.size < w2.heap.size := hC2.lt
  have hC3 := hC2.alloc (Pkt.box ⟨x0, k, 0, false, 0, 0, 0, 0, 0, 0, none, 0, 0, ⟨#[]⟩⟩)
  have hr3 := hr2.alloc (Pkt.box ⟨x0, k, 0, false, 0, 0, 0, 0, 0, 0, none, 0, 0, ⟨#[]⟩⟩)
  have hW3 := grown_trans hW2 (World.grownBy_alloc w2 (Pkt.box ⟨x0, k, 0, false, 0, 0, 0, 0, 0, 0, none, 0, 0, ⟨#[]⟩⟩) (some R))
  have hRB := hr2.lt
  generalize hBB : w2.heap.size = B at hB hCB hRB ⊢
  clear hBB
  dsimp only [Pkt.box] at hB hC3 hr3 hW3
  clear hr2 hC2 hW2
  refine (one_cons R _ _ _ hr3).mono ?_
  rintro e w4 ⟨rfl, hr4, hg4⟩
  have hB4 := hB.grown hg4 (by omega)
  have hC4 := hC3.grown hg4 (by omega)
  have hW4 := grown_trans hW3 hg4
  clear hr3 hg4 hB hC3 hW3
  go_wp2_with (go_at_call 29; refine (require_ok _).mono ?_; rintro e w4 ⟨rfl, rfl⟩; obtain ⟨_, _, _, c3, _, _, _, _, _, _, _, _⟩ := hB4.cell; have f3 := hB4.free 3)
  have hB5 := hB4.set ⟨x0, k, 0, false, 0, 0, 0, 0, 0, 0, none, 0, 0, ⟨#[]⟩⟩ 3 (.bool false) rfl
  have hr5 := hr4.setCell (B := B) (by omega) (i := 3) (.bool false) (.bool false) (by simp) c3
  have hC5 := hC4.other (a := ⟨B, 3, none⟩) (by simp; omega) (.bool false)
  have hW5 := grown_new hW4 (a := ⟨B, 3, none⟩) (by simp; omega) (.bool false)
  clear c3 f3 hr4 hB4 hC4 hW4
  generalize w4.setCell _ _ = w5 at hB5 hr5 hC5 hW5 ⊢
  refine (one_cons R _ _ _ hr5).mono ?_
  rintro e w6 ⟨rfl, hr6, hg6⟩
  have hB6 := hB5.grown hg6 (by omega)
  have hC6 := hC5.grown hg6 (by omega)
  have hW6 := grown_trans hW5 hg6
  clear hr5 hg6 hB5 hC5 hW5
  go_wp2_with (go_at_call 29; refine (require_ok _).mono ?_; rintro e w6 ⟨rfl, rfl⟩)
  refine (one_cons R _ _ _ hr6).mono ?_
  rintro e w7 ⟨rfl, hr7, hg7⟩
  have hB7 := hB6.grown hg7 (by omega)
  have hC7 := hC6.grown hg7 (by omega)
  have hW7 := grown_trans hW6 hg7
  clear hr6 hg7 hB6 hC6 hW6
  go_wp2_with fail
  obtain ⟨_, c1, _, _, _, _, _, _, _, _, _, _⟩ := hB7.cell
  refine (numbers_0 B k k1 k2 k9 w7 c1).mono ?_
  rintro e w7 ⟨rfl, rfl⟩
  clear c1
  go_wp2_with fail
  refine wp_loop_rounds 1 ?_
  rw [rounds_succ]
  have q1 := hby k (by simp)
  have hne : k ≠ 1 ∧ k ≠ 2 ∧ k ≠ 3 ∧ k ≠ 9 := ⟨by simpa using k1, by simpa using k2, by simpa using k3, by simpa using k9⟩
  have hneed : needOf k x4 = 0 := by simp [needOf, hne.1, hne.2.1, hne.2.2.1, hne.2.2.2]
  have hpk0 : pkOf x0 k 0 x4 [] = ⟨x0, k, 0, false, 0, 0, 0, 0, 0, 0, none, 0, 0, ⟨#[]⟩⟩ := by simp [pkOf, hne.1, hne.2.1, hne.2.2.1, hne.2.2.2]
  have hneed' := (show Hid _ from hneed)
  have hpk0' := (show Hid _ from hpk0)
  have hne' := (show Hid _ from hne)
  clear hneed hpk0 hne
  obtain ⟨v, hv, hvf, hvb, hvs⟩ := hr7
  have hsh : ∃ a c, v = .slice a r.length c := by
    rcases hvs with ⟨rfl, h⟩ | ⟨_, _, _, rfl, _⟩
    · exact ⟨none, 0, by rw [h]; rfl⟩
    · exact ⟨_, _, rfl⟩
  obtain ⟨sa, sc, rfl⟩ := hsh
  clear hvs hvb hvf
  have hBx := hB7
  have hCx := hC7
  have hWx := hW7
  obtain ⟨c0, c1, c2, c3, c4, c5, c6, c7, c8, c9, c10, c11⟩ := hB7.cell
  dsimp only at c0 c1 c2 c3 c4 c5 c6 c7 c8 c9 c10 c11
  by_cases hrest : r = []
  case neg =>
    have hl0 : ((r.length : Int) == 0) = false := by
      rw [beq_eq_false_iff_ne]
      intro h
      exact hrest (List.eq_nil_of_length_eq_zero (by omega))
    go_wp2_with (go_at_call 29; refine (require_no _).mono ?_; rintro e w9 ⟨rfl, hww⟩; rw [hww])
    have hl1 : 0 < r.length := List.length_pos_iff.2 hrest
    refine ⟨rfl, hWx, .inr ⟨?_, rfl⟩⟩
    exact isF_len (by rw [hneed'.out]; omega)
  subst hrest
  have q0 := hby x0 (by simp)
  have q4 := hby x4 (by simp)
  have hwf : Pkt.Wf ⟨x0, k, 0, false, 0, 0, 0, 0, 0, 0, none, 0, 0, ⟨#[]⟩⟩ := ⟨by dsimp only; omega, by dsimp only; omega, by dsimp only; omega, by dsimp only; omega, by dsimp only; omega, by dsimp only; omega, by dsimp only; omega, by dsimp only; omega, by dsimp only; omega, by dsimp only; omega, by dsimp only; omega, by dsimp only; omega, by dsimp only; omega, by dsimp only; omega, by dsimp only; omega, by dsimp only; omega, by dsimp only; omega, by dsimp only; omega, by dsimp only; omega, by simp [ByteArray.size]⟩
  have hpk : pkOf x0 k 0 x4 [] = ⟨x0, k, 0, false, 0, 0, 0, 0, 0, 0, none, 0, 0, ⟨#[]⟩⟩ := hpk0'.out
  have hisF := isF_eq (x0 := x0) (x1 := k) (x2 := 0) (x4 := x4) (r := []) (by simp) (hneed'.out.symm)
  rw [hpk] at hisF
  clear hby q0 q4 q1
  cases hg : Pkt.goodB ⟨x0, k, 0, false, 0, 0, 0, 0, 0, 0, none, 0, 0, ⟨#[]⟩⟩
  · go_wp2_with (first | (go_at_call 13; refine (isPacket_any ⟨x0, k, 0, false, 0, 0, 0, 0, 0, 0, none, 0, 0, ⟨#[]⟩⟩ hwf _).mono ?_; rintro e w9 ⟨rfl, hb9⟩) | (go_at_call 29; refine (require_no _).mono ?_; rintro e w10 ⟨rfl, hww⟩; rw [hww]))
    exact ⟨rfl, grown_below hWx hb9, .inr ⟨hisF.trans hg, rfl⟩⟩
  · go_wp2_with (first | (go_at_call 13; refine (isPacket_any ⟨x0, k, 0, false, 0, 0, 0, 0, 0, 0, none, 0, 0, ⟨#[]⟩⟩ hwf _).mono ?_; rintro e w9 ⟨rfl, hb9⟩; have hBy := hBx.below hb9; have hCy := hCx.below hb9; obtain ⟨y0, y1, y2, y3, y4, y5, y6, y7, y8, y9, y10, y11⟩ := hBy.cell; obtain ⟨k0, k1, k2, k3, k4, k5, k6, k7, k8, k9, k10, k11⟩ := hCy.cell; have kf := hCy.free; dsimp only at y0 y1 y2 y3 y4 y5 y6 y7 y8 y9 y10 y11; dsimp only [Pkt.zero] at k0 k1 k2 k3 k4 k5 k6 k7 k8 k9 k10 k11) | (go_at_call 29; refine (require_ok _).mono ?_; rintro e w9 ⟨rfl, rfl⟩))
    have hFin := hCy.storeAll ⟨x0, k, 0, false, 0, 0, 0, 0, 0, 0, none, 0, 0, ⟨#[]⟩⟩
    have hWF := grown_store (grown_below hWx hb9) (C := W.heap.size) (Nat.le_refl _) ⟨x0, k, 0, false, 0, 0, 0, 0, 0, 0, none, 0, 0, ⟨#[]⟩⟩
    clear y0 y1 y2 y3 y4 y5 y6 y7 y8 y9 y10 y11 k0 k1 k2 k3 k4 k5 k6 k7 k8 k9 k10 k11 kf hBy hCy
    dsimp only [store12] at hFin hWF
    generalize World.setCell _ _ _ = wF at hFin hWF ⊢
    obtain ⟨y0, y1, y2, y3, y4, y5, y6, y7, y8, y9, y10, y11⟩ := hFin.cell
    dsimp only at y0 y1 y2 y3 y4 y5 y6 y7 y8 y9 y10 y11
    refine bodyPost_ret (v := Pkt.val ⟨x0, k, 0, false, 0, 0, 0, 0, 0, 0, none, 0, 0, ⟨#[]⟩⟩) (by simp [results, Try.results23, go_sem, y0, y1, y2, y3, y4, y5, y6, y7, y8, y9, y10, y11]) rfl ?_
    exact ⟨hWF, .inl ⟨hisF.trans hg, _, rfl, _, _, _, _, _, _, none, 0, rfl, by rw [hpk], by rw [hpk]; simp [lsOf, hne'.out.2.2.1], fun j hj => absurd hj (by simp [lsOf, hne'.out.2.2.1]), fun b hb => by cases hb⟩⟩
end Go.Proofs.Ytmahaccaglaldaa
