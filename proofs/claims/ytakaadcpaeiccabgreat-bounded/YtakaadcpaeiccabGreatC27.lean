import Derived.Test.YtakaadcpaeiccabGreatC24
namespace Go.Proofs.YtakaadcpaeiccabGreat
open Go.RowKit

set_option maxRecDepth 100000 in
set_option maxHeartbeats 8000000 in
theorem packet_9t (R : Nat) (x0 : Int) (m : Nat) (r : List Int) (W : World) (hr : Rd R (x0 :: 9 :: 8 :: 0 :: (m : Int) :: r) W) :
    Calls Tryz.prog 56 #[.pointer (some ⟨R, 0, none⟩)] W fun e w' => PacketP R (x0 :: 9 :: 8 :: 0 :: (m : Int) :: r) W e w' := by
  have hby := hr.bytes
  have hR := hr.lt
  go_enter Tryz.func56, Tryz.ntmps56
  go_wp2_with fail
  have hC0 := PB.new Pkt.zero W
  have h1 := hr.alloc Pkt.zero.box
  have hg0 := World.grownBy_alloc W Pkt.zero.box (some R)
  dsimp only [Pkt.box, Pkt.zero] at hC0 h1 hg0
  refine (one_cons R _ _ _ h1).mono ?_
  rintro e w1 ⟨rfl, hr1, hg1⟩
  have hC1 : PB Pkt.zero W.heap.size w1 := PB.grown hC0 hg1 (by omega)
  have hW1 := grown_trans hg0 hg1
  clear hr h1 hg0 hg1 hC0
  go_wp2_with fail
  refine (one_cons R _ _ _ hr1).mono ?_
  rintro e w2 ⟨rfl, hr2, hg2⟩
  have hC2 := hC1.grown hg2 (by omega)
  have hW2 := grown_trans hW1 hg2
  clear hr1 hg2 hC1 hW1
  go_wp2_with fail
  have hB := PB.new ⟨x0, 9, 0, false, 0, 0, 0, 0, 0, 0, none, 0, 0, ⟨#[]⟩⟩ w2
  have hCB : W.heap.size < w2.heap.size := hC2.lt
  have hC3 := hC2.alloc (Pkt.box ⟨x0, 9, 0, false, 0, 0, 0, 0, 0, 0, none, 0, 0, ⟨#[]⟩⟩)
  have hr3 := hr2.alloc (Pkt.box ⟨x0, 9, 0, false, 0, 0, 0, 0, 0, 0, none, 0, 0, ⟨#[]⟩⟩)
  have hW3 := grown_trans hW2 (World.grownBy_alloc w2 (Pkt.box ⟨x0, 9, 0, false, 0, 0, 0, 0, 0, 0, none, 0, 0, ⟨#[]⟩⟩) (some R))
  have hRB := hr2.lt
  generalize hBB : w2.heap.size = B at hB hCB hRB ⊢
  clear hBB
  dsimp only [Pkt.box] at hB hC3 hr3 hW3
  clear hr2 hC2 hW2
  refine (one_cons R _ _ _ hr3).mono ?_
  rintro e w4 ⟨rfl, hr4, hg4⟩
  have hB4 := hB.grown hg4 (by omega)
  have hC4 := hC3.grown hg4 (by omega)
  have hW4 := grown_trans hW3 hg4
  clear hr3 hg4 hB hC3 hW3
  go_wp2_with (go_at_call 85; refine (require_ok _).mono ?_; rintro e w4 ⟨rfl, rfl⟩; obtain ⟨_, _, _, c3, _, _, _, _, _, _, _, _⟩ := hB4.cell; have f3 := hB4.free 3)
  have hB5 := hB4.set ⟨x0, 9, 0, true, 0, 0, 0, 0, 0, 0, none, 0, 0, ⟨#[]⟩⟩ 3 (.bool true) rfl
  have hr5 := hr4.setCell (B := B) (by omega) (i := 3) (.bool false) (.bool true) (by simp) c3
  have hC5 := hC4.other (a := ⟨B, 3, none⟩) (by simp; omega) (.bool true)
  have hW5 := grown_new hW4 (a := ⟨B, 3, none⟩) (by simp; omega) (.bool true)
  clear c3 f3 hr4 hB4 hC4 hW4
  generalize w4.setCell _ _ = w5 at hB5 hr5 hC5 hW5 ⊢
  refine (one_cons R _ _ _ hr5).mono ?_
  rintro e w6 ⟨rfl, hr6, hg6⟩
  have hB6 := hB5.grown hg6 (by omega)
  have hC6 := hC5.grown hg6 (by omega)
  have hW6 := grown_trans hW5 hg6
  clear hr5 hg6 hB5 hC5 hW5
  go_wp2_with (go_at_call 85; refine (require_ok _).mono ?_; rintro e w6 ⟨rfl, rfl⟩)
  refine (one_cons R _ _ _ hr6).mono ?_
  rintro e w7 ⟨rfl, hr7, hg7⟩
  have hB7 := hB6.grown hg7 (by omega)
  have hC7 := hC6.grown hg7 (by omega)
  have hW7 := grown_trans hW6 hg7
  clear hr6 hg7 hB6 hC6 hW6
  go_wp2_with fail
  obtain ⟨_, c1, _, _, _, _, _, _, _, _, _, _⟩ := hB7.cell
  refine (numbers_9 B w7 c1).mono ?_
  rintro e w8 ⟨rfl, hw8⟩
  have hN8 : w8.heap[w7.heap.size]? = some (.cells #[.pointer (some ⟨B, 4, none⟩), .pointer (some ⟨B, 5, none⟩), .pointer (some ⟨B, 7, none⟩)] 189 (0, 0)) := by rw [hw8]; exact heap_alloc_new w7 _
  have hB8 : PB ⟨x0, 9, 0, true, 0, 0, 0, 0, 0, 0, none, 0, 0, ⟨#[]⟩⟩ B w8 := by rw [hw8]; exact hB7.alloc _
  have hC8 : PB Pkt.zero W.heap.size w8 := by rw [hw8]; exact hC7.alloc _
  have hr8 : Rd R r w8 := by rw [hw8]; exact (hr7.alloc _).drew
  have hW8 : W.grownBy w8 (some R) := by rw [hw8]; exact grown_drew (grown_trans hW7 (World.grownBy_alloc w7 _ _))
  have hBN : B < w7.heap.size := hB7.lt
  generalize w7.heap.size = N at hN8 hBN ⊢
  clear hw8 hr7 hB7 hC7 hW7 c1
  go_wp2_with fail
  refine wp_loop_rounds 4 ?_
  rw [rounds_succ]
  have pc0 := cell_of_row w8 N 0 _ _ _ hN8
  simp only [List.getElem?_toArray, List.getElem?_cons_zero] at pc0
  go_wp2_with fail
  clear pc0
  refine (number_any R _ _ hr8).mono ?_
  rintro e w9 (⟨a0, b0, e0, d0, r0, rfl, rfl, hr9, hg9, _⟩ | ⟨hshort, rfl, rfl⟩)
  case inr => exact ⟨rfl, hW8, .inr ⟨isF_len (by rw [show needOf 9 (m : Int) = 12 + m from rfl]; first | omega | (simp only [List.length_cons]; omega)), rfl⟩⟩
  have hN9 := (hg9.block N (Array.getElem?_eq_some_iff.1 hN8).1 (by simp; omega)).trans hN8
  have hB9 := hB8.grown hg9 (by omega)
  have hC9 := hC8.grown hg9 (by omega)
  have hW9 := grown_trans hW8 hg9
  clear hr8 hg9 hB8 hC8 hW8 hN8
  obtain ⟨_, _, _, _, c4, c5, c6, c7, c8, c9, _, _⟩ := hB9.cell
  dsimp only at c4 c5 c6 c7 c8 c9
  have ff := hB9.free 4
  have hpre := c4
  clear c5 c6 c7 c8 c9
  go_wp2_with fail
  have hB8 := hB9.set ⟨x0, 9, 0, true, (n4 a0 b0 e0 d0), 0, 0, 0, 0, 0, none, 0, 0, ⟨#[]⟩⟩ 4 (.int .u32 (n4 a0 b0 e0 d0)) rfl
  have hr8 := hr9.setCell (B := B) (by omega) (i := 4) (.int .u32 0) (.int .u32 (n4 a0 b0 e0 d0)) (by simp) hpre
  have hC8 := hC9.other (a := ⟨B, 4, none⟩) (by simp; omega) (.int .u32 (n4 a0 b0 e0 d0))
  have hW8 := grown_new hW9 (a := ⟨B, 4, none⟩) (by simp; omega) (.int .u32 (n4 a0 b0 e0 d0))
  have hN8 := (Below.heap_setCell w9 ⟨B, 4, none⟩ (.int .u32 (n4 a0 b0 e0 d0)) N (by simp; omega)).trans hN9
  clear hr9 hB9 hC9 hW9 hN9 ff hpre c4
  generalize w9.setCell _ _ = w8 at hB8 hr8 hC8 hW8 hN8 ⊢
  rw [rounds_succ]
  have pc1 := cell_of_row w8 N 1 _ _ _ hN8
  simp only [List.getElem?_toArray, List.getElem?_cons_succ, List.getElem?_cons_zero] at pc1
  go_wp2_with fail
  clear pc1
  refine (number_any R _ _ hr8).mono ?_
  rintro e w9 (⟨a1, b1, e1, d1, r1, rfl, rfl, hr9, hg9, _⟩ | ⟨hshort, rfl, rfl⟩)
  case inr => exact ⟨rfl, hW8, .inr ⟨isF_len (by rw [show needOf 9 (m : Int) = 12 + m from rfl]; first | omega | (simp only [List.length_cons]; omega)), rfl⟩⟩
  have hN9 := (hg9.block N (Array.getElem?_eq_some_iff.1 hN8).1 (by simp; omega)).trans hN8
  have hB9 := hB8.grown hg9 (by omega)
  have hC9 := hC8.grown hg9 (by omega)
  have hW9 := grown_trans hW8 hg9
  clear hr8 hg9 hB8 hC8 hW8 hN8
  obtain ⟨_, _, _, _, c4, c5, c6, c7, c8, c9, _, _⟩ := hB9.cell
  dsimp only at c4 c5 c6 c7 c8 c9
  have ff := hB9.free 5
  have hpre := c5
  clear c4 c6 c7 c8 c9
  go_wp2_with fail
  have hB8 := hB9.set ⟨x0, 9, 0, true, (n4 a0 b0 e0 d0), (n4 a1 b1 e1 d1), 0, 0, 0, 0, none, 0, 0, ⟨#[]⟩⟩ 5 (.int .u32 (n4 a1 b1 e1 d1)) rfl
  have hr8 := hr9.setCell (B := B) (by omega) (i := 5) (.int .u32 0) (.int .u32 (n4 a1 b1 e1 d1)) (by simp) hpre
  have hC8 := hC9.other (a := ⟨B, 5, none⟩) (by simp; omega) (.int .u32 (n4 a1 b1 e1 d1))
  have hW8 := grown_new hW9 (a := ⟨B, 5, none⟩) (by simp; omega) (.int .u32 (n4 a1 b1 e1 d1))
  have hN8 := (Below.heap_setCell w9 ⟨B, 5, none⟩ (.int .u32 (n4 a1 b1 e1 d1)) N (by simp; omega)).trans hN9
  clear hr9 hB9 hC9 hW9 hN9 ff hpre c5
  generalize w9.setCell _ _ = w8 at hB8 hr8 hC8 hW8 hN8 ⊢
  rw [rounds_succ]
  have pc2 := cell_of_row w8 N 2 _ _ _ hN8
  simp only [List.getElem?_toArray, List.getElem?_cons_succ, List.getElem?_cons_zero] at pc2
  go_wp2_with fail
  clear pc2
  refine (number_any R _ _ hr8).mono ?_
  rintro e w9 (⟨a2, b2, e2, d2, r2, rfl, rfl, hr9, hg9, _⟩ | ⟨hshort, rfl, rfl⟩)
  case inr => exact ⟨rfl, hW8, .inr ⟨isF_len (by rw [show needOf 9 (m : Int) = 12 + m from rfl]; first | omega | (simp only [List.length_cons]; omega)), rfl⟩⟩
  have hN9 := (hg9.block N (Array.getElem?_eq_some_iff.1 hN8).1 (by simp; omega)).trans hN8
  have hB9 := hB8.grown hg9 (by omega)
  have hC9 := hC8.grown hg9 (by omega)
  have hW9 := grown_trans hW8 hg9
  clear hr8 hg9 hB8 hC8 hW8 hN8
  obtain ⟨_, _, _, _, c4, c5, c6, c7, c8, c9, _, _⟩ := hB9.cell
  dsimp only at c4 c5 c6 c7 c8 c9
  have ff := hB9.free 7
  have hpre := c7
  clear c4 c5 c6 c8 c9
  go_wp2_with fail
  have hB8 := hB9.set ⟨x0, 9, 0, true, (n4 a0 b0 e0 d0), (n4 a1 b1 e1 d1), 0, (n4 a2 b2 e2 d2), 0, 0, none, 0, 0, ⟨#[]⟩⟩ 7 (.int .u32 (n4 a2 b2 e2 d2)) rfl
  have hr8 := hr9.setCell (B := B) (by omega) (i := 7) (.int .u32 0) (.int .u32 (n4 a2 b2 e2 d2)) (by simp) hpre
  have hC8 := hC9.other (a := ⟨B, 7, none⟩) (by simp; omega) (.int .u32 (n4 a2 b2 e2 d2))
  have hW8 := grown_new hW9 (a := ⟨B, 7, none⟩) (by simp; omega) (.int .u32 (n4 a2 b2 e2 d2))
  have hN8 := (Below.heap_setCell w9 ⟨B, 7, none⟩ (.int .u32 (n4 a2 b2 e2 d2)) N (by simp; omega)).trans hN9
  clear hr9 hB9 hC9 hW9 hN9 ff hpre c7
  generalize w9.setCell _ _ = w8 at hB8 hr8 hC8 hW8 hN8 ⊢
  rw [rounds_succ]
  clear hN8
  obtain ⟨_, c1, _, _, _, _, _, _, _, _, _, _⟩ := hB8.cell
  dsimp only at c1
  go_wp2_with fail
  clear c1
  refine (take_any R m _ _ hr8).mono ?_
  rintro e w9 (⟨hn, ⟨tv, rfl, htv⟩, hr9, hg9, _⟩ | ⟨hs, rfl, rfl⟩)
  case inr => exact ⟨rfl, hW8, .inr ⟨isF_len (by rw [show needOf 9 (m : Int) = 12 + m from rfl]; simp only [List.length_cons]; omega), rfl⟩⟩
  obtain ⟨tk, rr, rfl, htl⟩ : ∃ tk rr, r2 = tk ++ rr ∧ tk.length = m := ⟨r2.take m, r2.drop m, (List.take_append_drop m r2).symm, by rw [List.length_take]; omega⟩
  rw [List.take_left' htl] at htv
  rw [List.drop_left' htl] at hr9
  have hcv := conv_rest htv
  have hB9 := hB8.grown hg9 (by omega)
  have hC9 := hC8.grown hg9 (by omega)
  have hW9 := grown_trans hW8 hg9
  clear hr8 hg9 hB8 hC8 hW8 htv
  obtain ⟨v, hv, hvf, hvb, hvs⟩ := hr9
  have hsh : ∃ a c, v = .slice a rr.length c := by
    rcases hvs with ⟨rfl, h⟩ | ⟨_, _, _, rfl, _⟩
    · exact ⟨none, 0, by rw [h]; rfl⟩
    · exact ⟨_, _, rfl⟩
  obtain ⟨sa, sc, rfl⟩ := hsh
  clear hvs hvb hvf
  obtain ⟨c0, c1, c2, c3, c4, c5, c6, c7, c8, c9, c10, c11⟩ := hB9.cell
  dsimp only at c0 c1 c2 c3 c4 c5 c6 c7 c8 c9 c10 c11
  have f11 := hB9.free 11
  have hBx := hB9.set ⟨x0, 9, 0, true, (n4 a0 b0 e0 d0), (n4 a1 b1 e1 d1), 0, (n4 a2 b2 e2 d2), 0, 0, none, 0, 0, strOfNums tk⟩ 11 (.string (strOfNums tk)) rfl
  have hCx := hC9.other (a := ⟨B, 11, none⟩) (by simp; omega) (.string (strOfNums tk))
  have hWx := grown_new hW9 (a := ⟨B, 11, none⟩) (by simp; omega) (.string (strOfNums tk))
  by_cases hrest : rr = []
  case neg =>
    have hl0 : ((rr.length : Int) == 0) = false := by
      rw [beq_eq_false_iff_ne]
      intro h
      exact hrest (List.eq_nil_of_length_eq_zero (by omega))
    go_wp2_with (go_at_call 85; refine (require_no _).mono ?_; rintro e w9 ⟨rfl, hww⟩; rw [hww])
    have hl1 : 0 < rr.length := List.length_pos_iff.2 hrest
    refine ⟨rfl, hWx, .inr ⟨?_, rfl⟩⟩
    exact isF_len (by rw [show needOf 9 (m : Int) = 12 + m from rfl]; simp only [List.length_cons, List.length_append]; omega)
  subst hrest
  have q0 := hby x0 (by simp)
  have q4 := hby (m : Int) (by simp)
  have m0 := n4_b (hby a0 (by simp)) (hby b0 (by simp)) (hby e0 (by simp)) (hby d0 (by simp))
  have m1 := n4_b (hby a1 (by simp)) (hby b1 (by simp)) (hby e1 (by simp)) (hby d1 (by simp))
  have m2 := n4_b (hby a2 (by simp)) (hby b2 (by simp)) (hby e2 (by simp)) (hby d2 (by simp))
  have hwf : Pkt.Wf ⟨x0, 9, 0, true, (n4 a0 b0 e0 d0), (n4 a1 b1 e1 d1), 0, (n4 a2 b2 e2 d2), 0, 0, none, 0, 0, strOfNums tk⟩ := ⟨by dsimp only; omega, by dsimp only; omega, by dsimp only; omega, by dsimp only; omega, by dsimp only; omega, by dsimp only; omega, by dsimp only; omega, by dsimp only; omega, by dsimp only; omega, by dsimp only; omega, by dsimp only; omega, by dsimp only; omega, by dsimp only; omega, by dsimp only; omega, by dsimp only; omega, by dsimp only; omega, by dsimp only; omega, by dsimp only; omega, by dsimp only; omega, by dsimp only; rw [strOfNums_size]; omega⟩
  have hpk : pkOf x0 9 8 (m : Int) (a0 :: b0 :: e0 :: d0 :: a1 :: b1 :: e1 :: d1 :: a2 :: b2 :: e2 :: d2 :: (tk ++ [])) = ⟨x0, 9, 0, true, (n4 a0 b0 e0 d0), (n4 a1 b1 e1 d1), 0, (n4 a2 b2 e2 d2), 0, 0, none, 0, 0, strOfNums tk⟩ := congrArg (fun z => (⟨x0, 9, 0, true, (n4 a0 b0 e0 d0), (n4 a1 b1 e1 d1), 0, (n4 a2 b2 e2 d2), 0, 0, none, 0, 0, strOfNums z⟩ : Pkt)) (show (tk ++ ([] : List Int)).take m = tk by simp [← htl])
  have hisF := isF_eq (x0 := x0) (x1 := 9) (x2 := 8) (x4 := (m : Int)) (r := (a0 :: b0 :: e0 :: d0 :: a1 :: b1 :: e1 :: d1 :: a2 :: b2 :: e2 :: d2 :: (tk ++ []))) (by simp) (by rw [show needOf 9 (m : Int) = 12 + m from rfl]; simp only [List.length_cons, List.length_append, List.length_nil]; omega)
  rw [hpk] at hisF
  clear hby q0 q4 m0 m1 m2
  cases hg : Pkt.goodB ⟨x0, 9, 0, true, (n4 a0 b0 e0 d0), (n4 a1 b1 e1 d1), 0, (n4 a2 b2 e2 d2), 0, 0, none, 0, 0, strOfNums tk⟩
  · go_wp2_with (first | (go_at_call 90; refine (isPacket_any ⟨x0, 9, 0, true, (n4 a0 b0 e0 d0), (n4 a1 b1 e1 d1), 0, (n4 a2 b2 e2 d2), 0, 0, none, 0, 0, strOfNums tk⟩ hwf _).mono ?_; rintro e w9 ⟨rfl, hb9⟩) | (go_at_call 85; refine (require_no _).mono ?_; rintro e w10 ⟨rfl, hww⟩; rw [hww]))
    exact ⟨rfl, grown_below hWx hb9, .inr ⟨hisF.trans hg, rfl⟩⟩
  · go_wp2_with (first | (go_at_call 90; refine (isPacket_any ⟨x0, 9, 0, true, (n4 a0 b0 e0 d0), (n4 a1 b1 e1 d1), 0, (n4 a2 b2 e2 d2), 0, 0, none, 0, 0, strOfNums tk⟩ hwf _).mono ?_; rintro e w9 ⟨rfl, hb9⟩; have hBy := hBx.below hb9; have hCy := hCx.below hb9; obtain ⟨y0, y1, y2, y3, y4, y5, y6, y7, y8, y9, y10, y11⟩ := hBy.cell; obtain ⟨k0, k1, k2, k3, k4, k5, k6, k7, k8, k9, k10, k11⟩ := hCy.cell; have kf := hCy.free; dsimp only at y0 y1 y2 y3 y4 y5 y6 y7 y8 y9 y10 y11; dsimp only [Pkt.zero] at k0 k1 k2 k3 k4 k5 k6 k7 k8 k9 k10 k11) | (go_at_call 85; refine (require_ok _).mono ?_; rintro e w9 ⟨rfl, rfl⟩))
    have hFin := hCy.storeAll ⟨x0, 9, 0, true, (n4 a0 b0 e0 d0), (n4 a1 b1 e1 d1), 0, (n4 a2 b2 e2 d2), 0, 0, none, 0, 0, strOfNums tk⟩
    have hWF := grown_store (grown_below hWx hb9) (C := W.heap.size) (Nat.le_refl _) ⟨x0, 9, 0, true, (n4 a0 b0 e0 d0), (n4 a1 b1 e1 d1), 0, (n4 a2 b2 e2 d2), 0, 0, none, 0, 0, strOfNums tk⟩
    clear y0 y1 y2 y3 y4 y5 y6 y7 y8 y9 y10 y11 k0 k1 k2 k3 k4 k5 k6 k7 k8 k9 k10 k11 kf hBy hCy
    dsimp only [store12] at hFin hWF
    generalize World.setCell _ _ _ = wF at hFin hWF ⊢
    obtain ⟨y0, y1, y2, y3, y4, y5, y6, y7, y8, y9, y10, y11⟩ := hFin.cell
    dsimp only at y0 y1 y2 y3 y4 y5 y6 y7 y8 y9 y10 y11
    refine bodyPost_ret (v := Pkt.val ⟨x0, 9, 0, true, (n4 a0 b0 e0 d0), (n4 a1 b1 e1 d1), 0, (n4 a2 b2 e2 d2), 0, 0, none, 0, 0, strOfNums tk⟩) (by simp [results, Tryz.results56, go_sem, y0, y1, y2, y3, y4, y5, y6, y7, y8, y9, y10, y11]) rfl ?_
    exact ⟨hWF, .inl ⟨hisF.trans hg, _, rfl, _, _, _, _, _, _, none, 0, rfl, by rw [hpk], rfl, fun j hj => absurd hj (by simp [lsOf]), fun b hb => by cases hb⟩⟩
end Go.Proofs.YtakaadcpaeiccabGreat

namespace Go.Proofs.YtakaadcpaeiccabGreat
open Go.RowKit

set_option maxRecDepth 100000 in
set_option maxHeartbeats 8000000 in
theorem packet_3f (R : Nat) (x0 : Int) (m : Nat) (r : List Int) (W : World) (hr : Rd R (x0 :: 3 :: 0 :: 0 :: (m : Int) :: r) W) :
    Calls Tryz.prog 56 #[.pointer (some ⟨R, 0, none⟩)] W fun e w' => PacketP R (x0 :: 3 :: 0 :: 0 :: (m : Int) :: r) W e w' := by
  have hby := hr.bytes
  have hR := hr.lt
  go_enter Tryz.func56, Tryz.ntmps56
  go_wp2_with fail
  have hC0 := PB.new Pkt.zero W
  have h1 := hr.alloc Pkt.zero.box
  have hg0 := World.grownBy_alloc W Pkt.zero.box (some R)
  dsimp only [Pkt.box, Pkt.zero] at hC0 h1 hg0
  refine (one_cons R _ _ _ h1).mono ?_
  rintro e w1 ⟨rfl, hr1, hg1⟩
  have hC1 : PB Pkt.zero W.heap.size w1 := PB.grown hC0 hg1 (by omega)
  have hW1 := grown_trans hg0 hg1
  clear hr h1 hg0 hg1 hC0
  go_wp2_with fail
  refine (one_cons R _ _ _ hr1).mono ?_
  rintro e w2 ⟨rfl, hr2, hg2⟩
  have hC2 := hC1.grown hg2 (by omega)
  have hW2 := grown_trans hW1 hg2
  clear hr1 hg2 hC1 hW1
  go_wp2_with fail
  have hB := PB.new ⟨x0, 3, 0, false, 0, 0, 0, 0, 0, 0, none, 0, 0, ⟨#[]⟩⟩ w2
  have hCB : W.heap.size < w2.heap.size := hC2.lt
  have hC3 := hC2.alloc (Pkt.box ⟨x0, 3, 0, false, 0, 0, 0, 0, 0, 0, none, 0, 0, ⟨#[]⟩⟩)
  have hr3 := hr2.alloc (Pkt.box ⟨x0, 3, 0, false, 0, 0, 0, 0, 0, 0, none, 0, 0, ⟨#[]⟩⟩)
  have hW3 := grown_trans hW2 (World.grownBy_alloc w2 (Pkt.box ⟨x0, 3, 0, false, 0, 0, 0, 0, 0, 0, none, 0, 0, ⟨#[]⟩⟩) (some R))
  have hRB := hr2.lt
  generalize hBB : w2.heap.size = B at hB hCB hRB ⊢
  clear hBB
  dsimp only [Pkt.box] at hB hC3 hr3 hW3
  clear hr2 hC2 hW2
  refine (one_cons R _ _ _ hr3).mono ?_
  rintro e w4 ⟨rfl, hr4, hg4⟩
  have hB4 := hB.grown hg4 (by omega)
  have hC4 := hC3.grown hg4 (by omega)
  have hW4 := grown_trans hW3 hg4
  clear hr3 hg4 hB hC3 hW3
  go_wp2_with (go_at_call 85; refine (require_ok _).mono ?_; rintro e w4 ⟨rfl, rfl⟩; obtain ⟨_, _, _, c3, _, _, _, _, _, _, _, _⟩ := hB4.cell; have f3 := hB4.free 3)
  have hB5 := hB4.set ⟨x0, 3, 0, false, 0, 0, 0, 0, 0, 0, none, 0, 0, ⟨#[]⟩⟩ 3 (.bool false) rfl
  have hr5 := hr4.setCell (B := B) (by omega) (i := 3) (.bool false) (.bool false) (by simp) c3
  have hC5 := hC4.other (a := ⟨B, 3, none⟩) (by simp; omega) (.bool false)
  have hW5 := grown_new hW4 (a := ⟨B, 3, none⟩) (by simp; omega) (.bool false)
  clear c3 f3 hr4 hB4 hC4 hW4
  generalize w4.setCell _ _ = w5 at hB5 hr5 hC5 hW5 ⊢
  refine (one_cons R _ _ _ hr5).mono ?_
  rintro e w6 ⟨rfl, hr6, hg6⟩
  have hB6 := hB5.grown hg6 (by omega)
  have hC6 := hC5.grown hg6 (by omega)
  have hW6 := grown_trans hW5 hg6
  clear hr5 hg6 hB5 hC5 hW5
  go_wp2_with (go_at_call 85; refine (require_ok _).mono ?_; rintro e w6 ⟨rfl, rfl⟩)
  refine (one_cons R _ _ _ hr6).mono ?_
  rintro e w7 ⟨rfl, hr7, hg7⟩
  have hB7 := hB6.grown hg7 (by omega)
  have hC7 := hC6.grown hg7 (by omega)
  have hW7 := grown_trans hW6 hg7
  clear hr6 hg7 hB6 hC6 hW6
  go_wp2_with fail
  obtain ⟨_, c1, _, _, _, _, _, _, _, _, _, _⟩ := hB7.cell
  refine (numbers_0 B 3 rfl rfl rfl w7 c1).mono ?_
  rintro e w7 ⟨rfl, rfl⟩
  clear c1
  go_wp2_with fail
  refine wp_loop_rounds 1 ?_
  rw [rounds_succ]
  have hm : m ≤ 255 := by
    have := hby (m : Int) (by simp)
    omega
  obtain ⟨_, c1, _, _, _, _, _, _, _, _, _, _⟩ := hB7.cell
  dsimp only at c1
  go_wp2_with fail
  clear c1
  refine (lost_any R m hm _ _ hr7).mono ?_
  rintro e w9 ⟨hg9, ⟨hn, ⟨g, hgn, rfl, hLg⟩, hr9⟩ | ⟨hs, rfl⟩⟩
  case inr => exact ⟨rfl, grown_trans hW7 hg9, .inr ⟨isF_len (by rw [show needOf 3 (m : Int) = 8 * m from rfl]; omega), rfl⟩⟩
  obtain ⟨rr, hrr⟩ : ∃ rr, r.drop (8 * m) = rr := ⟨_, rfl⟩
  rw [hrr] at hr9
  have hrl : rr.length = r.length - 8 * m := by rw [← hrr, List.length_drop]
  have hrl' := (show Hid _ from hrl)
  clear hrl hrr
  have hB9 := hB7.grown hg9 (by omega)
  have hC9 := hC7.grown hg9 (by omega)
  have hW9 := grown_trans hW7 hg9
  have hgB : B < g := Nat.lt_of_lt_of_le hB7.lt hgn
  clear hr7 hg9 hB7 hC7 hW7
  obtain ⟨v, hv, hvf, hvb, hvs⟩ := hr9
  have hsh : ∃ a c, v = .slice a rr.length c := by
    rcases hvs with ⟨rfl, h⟩ | ⟨_, _, _, rfl, _⟩
    · exact ⟨none, 0, by rw [h]; rfl⟩
    · exact ⟨_, _, rfl⟩
  obtain ⟨sa, sc, rfl⟩ := hsh
  clear hvs hvb hvf
  obtain ⟨c0, c1, c2, c3, c4, c5, c6, c7, c8, c9, c10, c11⟩ := hB9.cell
  dsimp only at c0 c1 c2 c3 c4 c5 c6 c7 c8 c9 c10 c11
  have f10 := hB9.free 10
  have hBx := hB9.set ⟨x0, 3, 0, false, 0, 0, 0, 0, 0, 0, some ⟨g, 0, none⟩, m, m, ⟨#[]⟩⟩ 10 (.slice (some ⟨g, 0, none⟩) m m) rfl
  have hCx := hC9.other (a := ⟨B, 10, none⟩) (by simp; omega) (.slice (some ⟨g, 0, none⟩) m m)
  have hWx := grown_new hW9 (a := ⟨B, 10, none⟩) (by simp; omega) (.slice (some ⟨g, 0, none⟩) m m)
  have hLx : HoldsA (w9.setCell ⟨B, 10, none⟩ (.slice (some ⟨g, 0, none⟩) m m)) (some ⟨g, 0, none⟩) (plOf m r) := hLg.far (a := ⟨B, 10, none⟩) (by simp; omega) _
  clear hLg
  by_cases hrest : rr = []
  case neg =>
    have hl0 : ((rr.length : Int) == 0) = false := by
      rw [beq_eq_false_iff_ne]
      intro h
      exact hrest (List.eq_nil_of_length_eq_zero (by omega))
    go_wp2_with (go_at_call 85; refine (require_no _).mono ?_; rintro e w9 ⟨rfl, hww⟩; rw [hww])
    have hl1 : 0 < rr.length := List.length_pos_iff.2 hrest
    refine ⟨rfl, hWx, .inr ⟨?_, rfl⟩⟩
    exact isF_len (by rw [show needOf 3 (m : Int) = 8 * m from rfl]; have := hrl'.out; omega)
  subst hrest
  have q0 := hby x0 (by simp)
  have q4 := hby (m : Int) (by simp)
  have hwf : Pkt.Wf ⟨x0, 3, 0, false, 0, 0, 0, 0, 0, 0, some ⟨g, 0, none⟩, m, m, ⟨#[]⟩⟩ := ⟨by dsimp only; omega, by dsimp only; omega, by dsimp only; omega, by dsimp only; omega, by dsimp only; omega, by dsimp only; omega, by dsimp only; omega, by dsimp only; omega, by dsimp only; omega, by dsimp only; omega, by dsimp only; omega, by dsimp only; omega, by dsimp only; omega, by dsimp only; omega, by dsimp only; omega, by dsimp only; omega, by dsimp only; omega, by dsimp only; omega, by dsimp only; omega, by simp [ByteArray.size]⟩
  have hpk : pkOf x0 3 0 (m : Int) r = ⟨x0, 3, 0, false, 0, 0, 0, 0, 0, 0, none, m, 0, ⟨#[]⟩⟩ := rfl
  have hisF := isF_eq (x0 := x0) (x1 := 3) (x2 := 0) (x4 := (m : Int)) (r := r) (by simp) (by rw [show needOf 3 (m : Int) = 8 * m from rfl]; have := hrl'.out; simp only [List.length_nil] at this; omega)
  rw [hpk, ← goodB_la ⟨x0, 3, 0, false, 0, 0, 0, 0, 0, 0, none, m, 0, ⟨#[]⟩⟩ (some ⟨g, 0, none⟩) m] at hisF
  clear hby q0 q4 
  cases hg : Pkt.goodB ⟨x0, 3, 0, false, 0, 0, 0, 0, 0, 0, some ⟨g, 0, none⟩, m, m, ⟨#[]⟩⟩
  · go_wp2_with (first | (go_at_call 90; refine (isPacket_any ⟨x0, 3, 0, false, 0, 0, 0, 0, 0, 0, some ⟨g, 0, none⟩, m, m, ⟨#[]⟩⟩ hwf _).mono ?_; rintro e w9 ⟨rfl, hb9⟩) | (go_at_call 85; refine (require_no _).mono ?_; rintro e w10 ⟨rfl, hww⟩; rw [hww]))
    exact ⟨rfl, grown_below hWx hb9, .inr ⟨hisF.trans hg, rfl⟩⟩
  · go_wp2_with (first | (go_at_call 90; refine (isPacket_any ⟨x0, 3, 0, false, 0, 0, 0, 0, 0, 0, some ⟨g, 0, none⟩, m, m, ⟨#[]⟩⟩ hwf _).mono ?_; rintro e w9 ⟨rfl, hb9⟩; have hBy := hBx.below hb9; have hCy := hCx.below hb9; obtain ⟨y0, y1, y2, y3, y4, y5, y6, y7, y8, y9, y10, y11⟩ := hBy.cell; obtain ⟨k0, k1, k2, k3, k4, k5, k6, k7, k8, k9, k10, k11⟩ := hCy.cell; have kf := hCy.free; dsimp only at y0 y1 y2 y3 y4 y5 y6 y7 y8 y9 y10 y11; dsimp only [Pkt.zero] at k0 k1 k2 k3 k4 k5 k6 k7 k8 k9 k10 k11) | (go_at_call 85; refine (require_ok _).mono ?_; rintro e w9 ⟨rfl, rfl⟩))
    have hFin := hCy.storeAll ⟨x0, 3, 0, false, 0, 0, 0, 0, 0, 0, some ⟨g, 0, none⟩, m, m, ⟨#[]⟩⟩
    have hWF := grown_store (grown_below hWx hb9) (C := W.heap.size) (Nat.le_refl _) ⟨x0, 3, 0, false, 0, 0, 0, 0, 0, 0, some ⟨g, 0, none⟩, m, m, ⟨#[]⟩⟩
    have hLy := hLx.below hb9
    have hLz := hLy.store12 (C := W.heap.size) (by omega) ⟨x0, 3, 0, false, 0, 0, 0, 0, 0, 0, some ⟨g, 0, none⟩, m, m, ⟨#[]⟩⟩
    clear y0 y1 y2 y3 y4 y5 y6 y7 y8 y9 y10 y11 k0 k1 k2 k3 k4 k5 k6 k7 k8 k9 k10 k11 kf hBy hCy
    dsimp only [store12] at hFin hWF hLz
    generalize World.setCell _ _ _ = wF at hFin hWF hLz ⊢
    obtain ⟨y0, y1, y2, y3, y4, y5, y6, y7, y8, y9, y10, y11⟩ := hFin.cell
    dsimp only at y0 y1 y2 y3 y4 y5 y6 y7 y8 y9 y10 y11
    refine bodyPost_ret (v := Pkt.val ⟨x0, 3, 0, false, 0, 0, 0, 0, 0, 0, some ⟨g, 0, none⟩, m, m, ⟨#[]⟩⟩) (by simp [results, Tryz.results56, go_sem, y0, y1, y2, y3, y4, y5, y6, y7, y8, y9, y10, y11]) rfl ?_
    exact ⟨hWF, .inl ⟨hisF.trans hg, _, rfl, _, _, _, _, _, _, some ⟨g, 0, none⟩, m, rfl, by rw [hpk], by simp [lsOf, plOf_length, pkOf], hLz, fun b hb => by obtain rfl := Option.some.inj hb; dsimp only; omega⟩⟩
end Go.Proofs.YtakaadcpaeiccabGreat

namespace Go.Proofs.YtakaadcpaeiccabGreat
open Go.RowKit

set_option maxRecDepth 100000 in
set_option maxHeartbeats 8000000 in
theorem packet_3t (R : Nat) (x0 : Int) (m : Nat) (r : List Int) (W : World) (hr : Rd R (x0 :: 3 :: 8 :: 0 :: (m : Int) :: r) W) :
    Calls Tryz.prog 56 #[.pointer (some ⟨R, 0, none⟩)] W fun e w' => PacketP R (x0 :: 3 :: 8 :: 0 :: (m : Int) :: r) W e w' := by
  have hby := hr.bytes
  have hR := hr.lt
  go_enter Tryz.func56, Tryz.ntmps56
  go_wp2_with fail
  have hC0 := PB.new Pkt.zero W
  have h1 := hr.alloc Pkt.zero.box
  have hg0 := World.grownBy_alloc W Pkt.zero.box (some R)
  dsimp only [Pkt.box, Pkt.zero] at hC0 h1 hg0
  refine (one_cons R _ _ _ h1).mono ?_
  rintro e w1 ⟨rfl, hr1, hg1⟩
  have hC1 : PB Pkt.zero W.heap.size w1 := PB.grown hC0 hg1 (by omega)
  have hW1 := grown_trans hg0 hg1
  clear hr h1 hg0 hg1 hC0
  go_wp2_with fail
  refine (one_cons R _ _ _ hr1).mono ?_
  rintro e w2 ⟨rfl, hr2, hg2⟩
  have hC2 := hC1.grown hg2 (by omega)
  have hW2 := grown_trans hW1 hg2
  clear hr1 hg2 hC1 hW1
  go_wp2_with fail
  have hB := PB.new ⟨x0, 3, 0, false, 0, 0, 0, 0, 0, 0, none, 0, 0, ⟨#[]⟩⟩ w2
  have hCB : W.heap.size < w2.heap.size := hC2.lt
  have hC3 := hC2.alloc (Pkt.box ⟨x0, 3, 0, false, 0, 0, 0, 0, 0, 0, none, 0, 0, ⟨#[]⟩⟩)
  have hr3 := hr2.alloc (Pkt.box ⟨x0, 3, 0, false, 0, 0, 0, 0, 0, 0, none, 0, 0, ⟨#[]⟩⟩)
  have hW3 := grown_trans hW2 (World.grownBy_alloc w2 (Pkt.box ⟨x0, 3, 0, false, 0, 0, 0, 0, 0, 0, none, 0, 0, ⟨#[]⟩⟩) (some R))
  have hRB := hr2.lt
  generalize hBB : w2.heap.size = B at hB hCB hRB ⊢
  clear hBB
  dsimp only [Pkt.box] at hB hC3 hr3 hW3
  clear hr2 hC2 hW2
  refine (one_cons R _ _ _ hr3).mono ?_
  rintro e w4 ⟨rfl, hr4, hg4⟩
  have hB4 := hB.grown hg4 (by omega)
  have hC4 := hC3.grown hg4 (by omega)
  have hW4 := grown_trans hW3 hg4
  clear hr3 hg4 hB hC3 hW3
  go_wp2_with (go_at_call 85; refine (require_ok _).mono ?_; rintro e w4 ⟨rfl, rfl⟩; obtain ⟨_, _, _, c3, _, _, _, _, _, _, _, _⟩ := hB4.cell; have f3 := hB4.free 3)
  have hB5 := hB4.set ⟨x0, 3, 0, true, 0, 0, 0, 0, 0, 0, none, 0, 0, ⟨#[]⟩⟩ 3 (.bool true) rfl
  have hr5 := hr4.setCell (B := B) (by omega) (i := 3) (.bool false) (.bool true) (by simp) c3
  have hC5 := hC4.other (a := ⟨B, 3, none⟩) (by simp; omega) (.bool true)
  have hW5 := grown_new hW4 (a := ⟨B, 3, none⟩) (by simp; omega) (.bool true)
  clear c3 f3 hr4 hB4 hC4 hW4
  generalize w4.setCell _ _ = w5 at hB5 hr5 hC5 hW5 ⊢
  refine (one_cons R _ _ _ hr5).mono ?_
  rintro e w6 ⟨rfl, hr6, hg6⟩
  have hB6 := hB5.grown hg6 (by omega)
  have hC6 := hC5.grown hg6 (by omega)
  have hW6 := grown_trans hW5 hg6
  clear hr5 hg6 hB5 hC5 hW5
  go_wp2_with (go_at_call 85; refine (require_ok _).mono ?_; rintro e w6 ⟨rfl, rfl⟩)
  refine (one_cons R _ _ _ hr6).mono ?_
  rintro e w7 ⟨rfl, hr7, hg7⟩
  have hB7 := hB6.grown hg7 (by omega)
  have hC7 := hC6.grown hg7 (by omega)
  have hW7 := grown_trans hW6 hg7
  clear hr6 hg7 hB6 hC6 hW6
  go_wp2_with fail
  obtain ⟨_, c1, _, _, _, _, _, _, _, _, _, _⟩ := hB7.cell
  refine (numbers_0 B 3 rfl rfl rfl w7 c1).mono ?_
  rintro e w7 ⟨rfl, rfl⟩
  clear c1
  go_wp2_with fail
  refine wp_loop_rounds 1 ?_
  rw [rounds_succ]
  have hm : m ≤ 255 := by
    have := hby (m : Int) (by simp)
    omega
  obtain ⟨_, c1, _, _, _, _, _, _, _, _, _, _⟩ := hB7.cell
  dsimp only at c1
  go_wp2_with fail
  clear c1
  refine (lost_any R m hm _ _ hr7).mono ?_
  rintro e w9 ⟨hg9, ⟨hn, ⟨g, hgn, rfl, hLg⟩, hr9⟩ | ⟨hs, rfl⟩⟩
  case inr => exact ⟨rfl, grown_trans hW7 hg9, .inr ⟨isF_len (by rw [show needOf 3 (m : Int) = 8 * m from rfl]; omega), rfl⟩⟩
  obtain ⟨rr, hrr⟩ : ∃ rr, r.drop (8 * m) = rr := ⟨_, rfl⟩
  rw [hrr] at hr9
  have hrl : rr.length = r.length - 8 * m := by rw [← hrr, List.length_drop]
  have hrl' := (show Hid _ from hrl)
  clear hrl hrr
  have hB9 := hB7.grown hg9 (by omega)
  have hC9 := hC7.grown hg9 (by omega)
  have hW9 := grown_trans hW7 hg9
  have hgB : B < g := Nat.lt_of_lt_of_le hB7.lt hgn
  clear hr7 hg9 hB7 hC7 hW7
  obtain ⟨v, hv, hvf, hvb, hvs⟩ := hr9
  have hsh : ∃ a c, v = .slice a rr.length c := by
    rcases hvs with ⟨rfl, h⟩ | ⟨_, _, _, rfl, _⟩
    · exact ⟨none, 0, by rw [h]; rfl⟩
    · exact ⟨_, _, rfl⟩
  obtain ⟨sa, sc, rfl⟩ := hsh
  clear hvs hvb hvf
  obtain ⟨c0, c1, c2, c3, c4, c5, c6, c7, c8, c9, c10, c11⟩ := hB9.cell
  dsimp only at c0 c1 c2 c3 c4 c5 c6 c7 c8 c9 c10 c11
  have f10 := hB9.free 10
  have hBx := hB9.set ⟨x0, 3, 0, true, 0, 0, 0, 0, 0, 0, some ⟨g, 0, none⟩, m, m, ⟨#[]⟩⟩ 10 (.slice (some ⟨g, 0, none⟩) m m) rfl
  have hCx := hC9.other (a := ⟨B, 10, none⟩) (by simp; omega) (.slice (some ⟨g, 0, none⟩) m m)
  have hWx := grown_new hW9 (a := ⟨B, 10, none⟩) (by simp; omega) (.slice (some ⟨g, 0, none⟩) m m)
  have hLx : HoldsA (w9.setCell ⟨B, 10, none⟩ (.slice (some ⟨g, 0, none⟩) m m)) (some ⟨g, 0, none⟩) (plOf m r) := hLg.far (a := ⟨B, 10, none⟩) (by simp; omega) _
  clear hLg
  by_cases hrest : rr = []
  case neg =>
    have hl0 : ((rr.length : Int) == 0) = false := by
      rw [beq_eq_false_iff_ne]
      intro h
      exact hrest (List.eq_nil_of_length_eq_zero (by omega))
    go_wp2_with (go_at_call 85; refine (require_no _).mono ?_; rintro e w9 ⟨rfl, hww⟩; rw [hww])
    have hl1 : 0 < rr.length := List.length_pos_iff.2 hrest
    refine ⟨rfl, hWx, .inr ⟨?_, rfl⟩⟩
    exact isF_len (by rw [show needOf 3 (m : Int) = 8 * m from rfl]; have := hrl'.out; omega)
  subst hrest
  have q0 := hby x0 (by simp)
  have q4 := hby (m : Int) (by simp)
  have hwf : Pkt.Wf ⟨x0, 3, 0, true, 0, 0, 0, 0, 0, 0, some ⟨g, 0, none⟩, m, m, ⟨#[]⟩⟩ := ⟨by dsimp only; omega, by dsimp only; omega, by dsimp only; omega, by dsimp only; omega, by dsimp only; omega, by dsimp only; omega, by dsimp only; omega, by dsimp only; omega, by dsimp only; omega, by dsimp only; omega, by dsimp only; omega, by dsimp only; omega, by dsimp only; omega, by dsimp only; omega, by dsimp only; omega, by dsimp only; omega, by dsimp only; omega, by dsimp only; omega, by dsimp only; omega, by simp [ByteArray.size]⟩
  have hpk : pkOf x0 3 8 (m : Int) r = ⟨x0, 3, 0, true, 0, 0, 0, 0, 0, 0, none, m, 0, ⟨#[]⟩⟩ := rfl
  have hisF := isF_eq (x0 := x0) (x1 := 3) (x2 := 8) (x4 := (m : Int)) (r := r) (by simp) (by rw [show needOf 3 (m : Int) = 8 * m from rfl]; have := hrl'.out; simp only [List.length_nil] at this; omega)
  rw [hpk, ← goodB_la ⟨x0, 3, 0, true, 0, 0, 0, 0, 0, 0, none, m, 0, ⟨#[]⟩⟩ (some ⟨g, 0, none⟩) m] at hisF
  clear hby q0 q4 
  cases hg : Pkt.goodB ⟨x0, 3, 0, true, 0, 0, 0, 0, 0, 0, some ⟨g, 0, none⟩, m, m, ⟨#[]⟩⟩
  · go_wp2_with (first | (go_at_call 90; refine (isPacket_any ⟨x0, 3, 0, true, 0, 0, 0, 0, 0, 0, some ⟨g, 0, none⟩, m, m, ⟨#[]⟩⟩ hwf _).mono ?_; rintro e w9 ⟨rfl, hb9⟩) | (go_at_call 85; refine (require_no _).mono ?_; rintro e w10 ⟨rfl, hww⟩; rw [hww]))
    exact ⟨rfl, grown_below hWx hb9, .inr ⟨hisF.trans hg, rfl⟩⟩
  · go_wp2_with (first | (go_at_call 90; refine (isPacket_any ⟨x0, 3, 0, true, 0, 0, 0, 0, 0, 0, some ⟨g, 0, none⟩, m, m, ⟨#[]⟩⟩ hwf _).mono ?_; rintro e w9 ⟨rfl, hb9⟩; have hBy := hBx.below hb9; have hCy := hCx.below hb9; obtain ⟨y0, y1, y2, y3, y4, y5, y6, y7, y8, y9, y10, y11⟩ := hBy.cell; obtain ⟨k0, k1, k2, k3, k4, k5, k6, k7, k8, k9, k10, k11⟩ := hCy.cell; have kf := hCy.free; dsimp only at y0 y1 y2 y3 y4 y5 y6 y7 y8 y9 y10 y11; dsimp only [Pkt.zero] at k0 k1 k2 k3 k4 k5 k6 k7 k8 k9 k10 k11) | (go_at_call 85; refine (require_ok _).mono ?_; rintro e w9 ⟨rfl, rfl⟩))
    have hFin := hCy.storeAll ⟨x0, 3, 0, true, 0, 0, 0, 0, 0, 0, some ⟨g, 0, none⟩, m, m, ⟨#[]⟩⟩
    have hWF := grown_store (grown_below hWx hb9) (C := W.heap.size) (Nat.le_refl _) ⟨x0, 3, 0, true, 0, 0, 0, 0, 0, 0, some ⟨g, 0, none⟩, m, m, ⟨#[]⟩⟩
    have hLy := hLx.below hb9
    have hLz := hLy.store12 (C := W.heap.size) (by omega) ⟨x0, 3, 0, true, 0, 0, 0, 0, 0, 0, some ⟨g, 0, none⟩, m, m, ⟨#[]⟩⟩
    clear y0 y1 y2 y3 y4 y5 y6 y7 y8 y9 y10 y11 k0 k1 k2 k3 k4 k5 k6 k7 k8 k9 k10 k11 kf hBy hCy
    dsimp only [store12] at hFin hWF hLz
    generalize World.setCell _ _ _ = wF at hFin hWF hLz ⊢
    obtain ⟨y0, y1, y2, y3, y4, y5, y6, y7, y8, y9, y10, y11⟩ := hFin.cell
    dsimp only at y0 y1 y2 y3 y4 y5 y6 y7 y8 y9 y10 y11
    refine bodyPost_ret (v := Pkt.val ⟨x0, 3, 0, true, 0, 0, 0, 0, 0, 0, some ⟨g, 0, none⟩, m, m, ⟨#[]⟩⟩) (by simp [results, Tryz.results56, go_sem, y0, y1, y2, y3, y4, y5, y6, y7, y8, y9, y10, y11]) rfl ?_
    exact ⟨hWF, .inl ⟨hisF.trans hg, _, rfl, _, _, _, _, _, _, some ⟨g, 0, none⟩, m, rfl, by rw [hpk], by simp [lsOf, plOf_length, pkOf], hLz, fun b hb => by obtain rfl := Option.some.inj hb; dsimp only; omega⟩⟩
end Go.Proofs.YtakaadcpaeiccabGreat

namespace Go.Proofs.YtakaadcpaeiccabGreat
open Go.RowKit

set_option maxRecDepth 100000 in
set_option maxHeartbeats 8000000 in
theorem packet_0f (R : Nat) (x0 x4 : Int) (r : List Int) (W : World) (k : Int) (k1 : (k == 1) = false) (k2 : (k == 2) = false) (k3 : (k == 3) = false) (k9 : (k == 9) = false) (hr : Rd R (x0 :: k :: 0 :: 0 :: x4 :: r) W) :
    Calls Tryz.prog 56 #[.pointer (some ⟨R, 0, none⟩)] W fun e w' => PacketP R (x0 :: k :: 0 :: 0 :: x4 :: r) W e w' := by
  have hby := hr.bytes
  have hR := hr.lt
  go_enter Tryz.func56, Tryz.ntmps56
  go_wp2_with fail
  have hC0 := PB.new Pkt.zero W
  have h1 := hr.alloc Pkt.zero.box
  have hg0 := World.grownBy_alloc W Pkt.zero.box (some R)
  dsimp only [Pkt.box, Pkt.zero] at hC0 h1 hg0
  refine (one_cons R _ _ _ h1).mono ?_
  rintro e w1 ⟨rfl, hr1, hg1⟩
  have hC1 : PB Pkt.zero W.heap.size w1 := PB.grown hC0 hg1 (by omega)
  have hW1 := grown_trans hg0 hg1
  clear hr h1 hg0 hg1 hC0
  go_wp2_with fail
  refine (one_cons R _ _ _ hr1).mono ?_
  rintro e w2 ⟨rfl, hr2, hg2⟩
  have hC2 := hC1.grown hg2 (by omega)
  have hW2 := grown_trans hW1 hg2
  clear hr1 hg2 hC1 hW1
  go_wp2_with fail
  have hB := PB.new ⟨x0, k, 0, false, 0, 0, 0, 0, 0, 0, none, 0, 0, ⟨#[]⟩⟩ w2
  have hCB : W.heap.size < w2.heap.size := hC2.lt
  have hC3 := hC2.alloc (Pkt.box ⟨x0, k, 0, false, 0, 0, 0, 0, 0, 0, none, 0, 0, ⟨#[]⟩⟩)
  have hr3 := hr2.alloc (Pkt.box ⟨x0, k, 0, false, 0, 0, 0, 0, 0, 0, none, 0, 0, ⟨#[]⟩⟩)
  have hW3 := grown_trans hW2 (World.grownBy_alloc w2 (Pkt.box ⟨x0, k, 0, false, 0, 0, 0, 0, 0, 0, none, 0, 0, ⟨#[]⟩⟩) (some R))
  have hRB := hr2.lt
  generalize hBB : w2.heap.size = B at hB hCB hRB ⊢
  clear hBB
  dsimp only [Pkt.box] at hB hC3 hr3 hW3
  clear hr2 hC2 hW2
  refine (one_cons R _ _ _ hr3).mono ?_
  rintro e w4 ⟨rfl, hr4, hg4⟩
  have hB4 := hB.grown hg4 (by omega)
  have hC4 := hC3.grown hg4 (by omega)
  have hW4 := grown_trans hW3 hg4
  clear hr3 hg4 hB hC3 hW3
  go_wp2_with (go_at_call 85; refine (require_ok _).mono ?_; rintro e w4 ⟨rfl, rfl⟩; obtain ⟨_, _, _, c3, _, _, _, _, _, _, _, _⟩ := hB4.cell; have f3 := hB4.free 3)
  have hB5 := hB4.set ⟨x0, k, 0, false, 0, 0, 0, 0, 0, 0, none, 0, 0, ⟨#[]⟩⟩ 3 (.bool false) rfl
  have hr5 := hr4.setCell (B := B) (by omega) (i := 3) (.bool false) (.bool false) (by simp) c3
  have hC5 := hC4.other (a := ⟨B, 3, none⟩) (by simp; omega) (.bool false)
  have hW5 := grown_new hW4 (a := ⟨B, 3, none⟩) (by simp; omega) (.bool false)
  clear c3 f3 hr4 hB4 hC4 hW4
  generalize w4.setCell _ _ = w5 at hB5 hr5 hC5 hW5 ⊢
  refine (one_cons R _ _ _ hr5).mono ?_
  rintro e w6 ⟨rfl, hr6, hg6⟩
  have hB6 := hB5.grown hg6 (by omega)
  have hC6 := hC5.grown hg6 (by omega)
  have hW6 := grown_trans hW5 hg6
  clear hr5 hg6 hB5 hC5 hW5
  go_wp2_with (go_at_call 85; refine (require_ok _).mono ?_; rintro e w6 ⟨rfl, rfl⟩)
  refine (one_cons R _ _ _ hr6).mono ?_
  rintro e w7 ⟨rfl, hr7, hg7⟩
  have hB7 := hB6.grown hg7 (by omega)
  have hC7 := hC6.grown hg7 (by omega)
  have hW7 := grown_trans hW6 hg7
  clear hr6 hg7 hB6 hC6 hW6
  go_wp2_with fail
  obtain ⟨_, c1, _, _, _, _, _, _, _, _, _, _⟩ := hB7.cell
  refine (numbers_0 B k k1 k2 k9 w7 c1).mono ?_
  rintro e w7 ⟨rfl, rfl⟩
  clear c1
  go_wp2_with fail
  refine wp_loop_rounds 1 ?_
  rw [rounds_succ]
  have q1 := hby k (by simp)
  have hne : k ≠ 1 ∧ k ≠ 2 ∧ k ≠ 3 ∧ k ≠ 9 := ⟨by simpa using k1, by simpa using k2, by simpa using k3, by simpa using k9⟩
  have hneed : needOf k x4 = 0 := by simp [needOf, hne.1, hne.2.1, hne.2.2.1, hne.2.2.2]
  have hpk0 : pkOf x0 k 0 x4 [] = ⟨x0, k, 0, false, 0, 0, 0, 0, 0, 0, none, 0, 0, ⟨#[]⟩⟩ := by simp [pkOf, hne.1, hne.2.1, hne.2.2.1, hne.2.2.2]
  have hneed' := (show Hid _ from hneed)
  have hpk0' := (show Hid _ from hpk0)
  have hne' := (show Hid _ from hne)
  clear hneed hpk0 hne
  obtain ⟨v, hv, hvf, hvb, hvs⟩ := hr7
  have hsh : ∃ a c, v = .slice a r.length c := by
    rcases hvs with ⟨rfl, h⟩ | ⟨_, _, _, rfl, _⟩
    · exact ⟨none, 0, by rw [h]; rfl⟩
    · exact ⟨_, _, rfl⟩
  obtain ⟨sa, sc, rfl⟩ := hsh
  clear hvs hvb hvf
  have hBx := hB7
  have hCx := hC7
  have hWx := hW7
  obtain ⟨c0, c1, c2, c3, c4, c5, c6, c7, c8, c9, c10, c11⟩ := hB7.cell
  dsimp only at c0 c1 c2 c3 c4 c5 c6 c7 c8 c9 c10 c11
  by_cases hrest : r = []
  case neg =>
    have hl0 : ((r.length : Int) == 0) = false := by
      rw [beq_eq_false_iff_ne]
      intro h
      exact hrest (List.eq_nil_of_length_eq_zero (by omega))
    go_wp2_with (go_at_call 85; refine (require_no _).mono ?_; rintro e w9 ⟨rfl, hww⟩; rw [hww])
    have hl1 : 0 < r.length := List.length_pos_iff.2 hrest
    refine ⟨rfl, hWx, .inr ⟨?_, rfl⟩⟩
    exact isF_len (by rw [hneed'.out]; omega)
  subst hrest
  have q0 := hby x0 (by simp)
  have q4 := hby x4 (by simp)
  have hwf : Pkt.Wf ⟨x0, k, 0, false, 0, 0, 0, 0, 0, 0, none, 0, 0, ⟨#[]⟩⟩ := ⟨by dsimp only; omega, by dsimp only; omega, by dsimp only; omega, by dsimp only; omega, by dsimp only; omega, by dsimp only; omega, by dsimp only; omega, by dsimp only; omega, by dsimp only; omega, by dsimp only; omega, by dsimp only; omega, by dsimp only; omega, by dsimp only; omega, by dsimp only; omega, by dsimp only; omega, by dsimp only; omega, by dsimp only; omega, by dsimp only; omega, by dsimp only; omega, by simp [ByteArray.size]⟩
  have hpk : pkOf x0 k 0 x4 [] = ⟨x0, k, 0, false, 0, 0, 0, 0, 0, 0, none, 0, 0, ⟨#[]⟩⟩ := hpk0'.out
  have hisF := isF_eq (x0 := x0) (x1 := k) (x2 := 0) (x4 := x4) (r := []) (by simp) (hneed'.out.symm)
  rw [hpk] at hisF
  clear hby q0 q4 q1
  cases hg : Pkt.goodB ⟨x0, k, 0, false, 0, 0, 0, 0, 0, 0, none, 0, 0, ⟨#[]⟩⟩
  · go_wp2_with (first | (go_at_call 90; refine (isPacket_any ⟨x0, k, 0, false, 0, 0, 0, 0, 0, 0, none, 0, 0, ⟨#[]⟩⟩ hwf _).mono ?_; rintro e w9 ⟨rfl, hb9⟩) | (go_at_call 85; refine (require_no _).mono ?_; rintro e w10 ⟨rfl, hww⟩; rw [hww]))
    exact ⟨rfl, grown_below hWx hb9, .inr ⟨hisF.trans hg, rfl⟩⟩
  · go_wp2_with (first | (go_at_call 90; refine (isPacket_any ⟨x0, k, 0, false, 0, 0, 0, 0, 0, 0, none, 0, 0, ⟨#[]⟩⟩ hwf _).mono ?_; rintro e w9 ⟨rfl, hb9⟩; have hBy := hBx.below hb9; have hCy := hCx.below hb9; obtain ⟨y0, y1, y2, y3, y4, y5, y6, y7, y8, y9, y10, y11⟩ := hBy.cell; obtain ⟨k0, k1, k2, k3, k4, k5, k6, k7, k8, k9, k10, k11⟩ := hCy.cell; have kf := hCy.free; dsimp only at y0 y1 y2 y3 y4 y5 y6 y7 y8 y9 y10 y11; dsimp only [Pkt.zero] at k0 k1 k2 k3 k4 k5 k6 k7 k8 k9 k10 k11) | (go_at_call 85; refine (require_ok _).mono ?_; rintro e w9 ⟨rfl, rfl⟩))
    have hFin := hCy.storeAll ⟨x0, k, 0, false, 0, 0, 0, 0, 0, 0, none, 0, 0, ⟨#[]⟩⟩
    have hWF := grown_store (grown_below hWx hb9) (C := W.heap.size) (Nat.le_refl _) ⟨x0, k, 0, false, 0, 0, 0, 0, 0, 0, none, 0, 0, ⟨#[]⟩⟩
    clear y0 y1 y2 y3 y4 y5 y6 y7 y8 y9 y10 y11 k0 k1 k2 k3 k4 k5 k6 k7 k8 k9 k10 k11 kf hBy hCy
    dsimp only [store12] at hFin hWF
    generalize World.setCell _ _ _ = wF at hFin hWF ⊢
    obtain ⟨y0, y1, y2, y3, y4, y5, y6, y7, y8, y9, y10, y11⟩ := hFin.cell
    dsimp only at y0 y1 y2 y3 y4 y5 y6 y7 y8 y9 y10 y11
    refine bodyPost_ret (v := Pkt.val ⟨x0, k, 0, false, 0, 0, 0, 0, 0, 0, none, 0, 0, ⟨#[]⟩⟩) (by simp [results, Tryz.results56, go_sem, y0, y1, y2, y3, y4, y5, y6, y7, y8, y9, y10, y11]) rfl ?_
    exact ⟨hWF, .inl ⟨hisF.trans hg, _, rfl, _, _, _, _, _, _, none, 0, rfl, by rw [hpk], by rw [hpk]; simp [lsOf, hne'.out.2.2.1], fun j hj => absurd hj (by simp [lsOf, hne'.out.2.2.1]), fun b hb => by cases hb⟩⟩
end Go.Proofs.YtakaadcpaeiccabGreat
