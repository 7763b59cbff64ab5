import Derived.Test.YtmahaccaglaldaaW15
namespace Go.Proofs.Ytmahaccaglaldaa
open Go.RowKit

theorem good_fits {p : Pkt} (h : p.goodB = true) : 1 ≤ p.kind ∧ p.kind ≤ 9 ∧ 0 ≤ p.cnt ∧ p.cnt ≤ 255 ∧ p.ln ≤ 8 := by
  obtain ⟨hl, _, _, h1, h2, h3, hk⟩ := good_parts h
  have hln := (like_parts hl).1
  unfold Pkt.cnt
  rcases hk with hk | hk | hk | ⟨hk, _, _⟩
  · have : p.ownP.ln = 0 := by simp [Pkt.ownP, hk]
    simp [hk]; omega
  · have : p.ownP.ln = 0 := by simp [Pkt.ownP, hk]
    simp [hk]; omega
  · have : p.ownP.ln = 0 := by simp [Pkt.ownP, hk]
    simp [hk]; omega
  · simp [hk]; omega

theorem encB_len {p : Pkt} {L : List (Int × Int)} (h1 : L.length = p.ln) (h2 : p.ln ≤ 8) (h3 : p.pay.size ≤ 16) : (encB p L).length ≤ 65536 := by
  have := numB_len p p.nums.length
  have := lostB_len L L.length
  simp only [encB, List.length_append, Pkt.head, List.length_cons, List.length_nil, strNums_length]
  omega

theorem U_set (ys : List Int) (j : Nat) (x : Int) : U (ys.set j x) = (U ys).set j (.int .u8 x) := by simp [U, List.map_set]

theorem row_shape {W : World} {base e size : Nat} {v : Value} {n : Nat} {xs : List Value} (h : W.ownsRow base e size v n xs) (hv : v ≠ .slice none 0 0) :
    ∃ g cap, v = .slice (some ⟨g, 0, none⟩) n cap ∧ base ≤ g := by
  rcases h.2 with ⟨rfl, _⟩ | ⟨g, cap, cur, rfl, hb, _⟩
  · exact absurd rfl hv
  · exact ⟨g, cap, rfl, hb⟩

set_option maxRecDepth 100000 in
set_option maxHeartbeats 4000000 in
theorem Encodes_good (p : Pkt) (hp : p.Wf) (hg : p.goodB = true) (hln : p.ln ≤ 4096) (L : List (Int × Int)) (w : World) (hL : HoldsL w p L) :
    Calls Try.prog 3 #[p.val] w fun e w' => e = .returned (.bool true) ∧ Below w.heap.size w w' := by
  have hpay := hp.pay1
  obtain ⟨i0, hi, hz0, hz1, hz2⟩ := info_parts info_lost
  have hA : HoldsA w p.la L := hL.2
  have hLn : Hid (L.length = p.ln) := hL.1
  have e1 : decide (65536 < (p.pay.size : Int)) = false := decide_eq_false (by omega)
  have e2 : decide (4096 < (p.ln : Int)) = false := decide_eq_false (by omega)
  have hown := World.ownsRow_made (base := w.heap.size + 2) (e := 49) (size := 2) ((w.alloc p.box).alloc p.box) #[] 0 (by simp) (by unfold maxLen; omega) rfl
  dsimp only [Pkt.box] at hown
  simp only [World.size_alloc] at hown
  have hBw := (((Below.refl w.heap.size w).alloc (Nat.le_refl _) p.box).alloc (by simp) p.box).alloc (by simp; omega) (.cells #[] 49)
  dsimp only [Pkt.box] at hBw
  have hsrc := src_lost (hA.below hBw) p.ln p.lc hLn.out
  have hlast : (((w.alloc p.box).alloc p.box).alloc (.cells #[] 49)).heap.size = w.heap.size + 3 := by simp
  dsimp only [Pkt.box] at hlast
  go_enter Try.func3, Try.ntmps3
  go_wp2_with (at_builtin; refine wpList_append_own_src _ rfl _ _ 24 24 rfl (w.heap.size + 2) 49 i0 (.agg #[.int .u32 0, .int .u32 0]) 2 8 Try.underlying24 hi hz0 hz1 hz2 rfl (.slice (some ⟨w.heap.size + 1 + 1, 0, none⟩) 0 0) 0 [] rfl hown (by simp) (.slice p.la p.ln p.lc) p.ln (LC L) rfl hsrc ?c1 ?c2 ?c3 ?_)
  case c1 => unfold maxLen; omega
  case c2 => omega
  case c3 => rw [hlast]; omega
  intro v' W1 hown' hgrow hnn'
  have hB1 : Below (w.heap.size + 2) (((w.alloc p.box).alloc p.box).alloc (.cells #[] 49)) W1 :=
    (Below.refl _ _).grown hgrow (by simp) (fun k hk => by simp [Value.ownBlock] at hk; omega)
  have hown'' : W1.ownsRow (w.heap.size + 2) 49 2 v' p.ln (LC L) := by simpa using hown'
  obtain ⟨⟨hc10, hf10⟩, g, cap, rfl, hE⟩ := EInv.start p L w W1 v' hA hown'' hnn' hB1
  clear hown hBw hsrc hlast hown' hgrow hB1 hown'' hnn' hi hz0 hz1 hz2
  go_wp2_with fail
  clear hc10 hf10
  generalize W1.setCell _ _ = W2 at hE ⊢
  have hq : ({ p with la := some ⟨g, 0, none⟩, lc := cap } : Pkt).Wf := ⟨hp.ttl0, hp.ttl1, hp.kind0, hp.kind1, hp.hops0, hp.hops1, hp.id0, hp.id1, hp.dest0, hp.dest1, hp.dseq0, hp.dseq1, hp.frm0, hp.frm1, hp.fseq0, hp.fseq1, hp.life0, hp.life1, hp.ln1, hp.pay1⟩
  have hgq : ({ p with la := some ⟨g, 0, none⟩, lc := cap } : Pkt).goodB = true := (goodB_la p _ _).trans hg
  have hgp := good_parts hg
  have hgf := good_fits hg
  clear hL hA
  go_loopw [4] (fun i wr => ∃ k : Nat, k ≤ 2 ∧ i = .int .i64 k ∧ EInv p { p with la := some ⟨g, 0, none⟩, lc := cap } L w wr) (fun i _ => 2 - (intOf i).toNat)
  case atStart => exact ⟨0, by omega, rfl, hE⟩
  case round =>
    clear hE
    obtain ⟨k, hk, rfl, hE⟩ := hrel
    by_cases hlt : k < 2
    · obtain ⟨b0, b1, b2, b3, b4, b5, b6, b7, b8, b9, b10, b11⟩ := (show _ from hE.b)
      dsimp only at b0 b1 b2 b3 b4 b5 b6 b7 b8 b9 b10 b11
      go_wp2_with (go_at_call 6; refine (Encode_good { p with la := some ⟨g, 0, none⟩, lc := cap } hq hgq hgp.2.1 hgp.2.2.1 hgf.1 hgf.2.1 hgf.2.2.1 hgf.2.2.2.1 hgf.2.2.2.2 hgp.2.2.2.2.2.1 L _ ⟨hLn.out, hE.lb⟩).mono ?_; rintro e w5 ⟨v, rfl, hb5, hnn5, hown5⟩; have hE5 := hE.step hb5; have hown5' : w5.ownsRow (wr.heap.size + 1) 5 1 v (encB p L).length (U (encB p L)) := hown5; clear hown5; obtain ⟨a0, a1, a2, a3, a4, a5, a6, a7, a8, a9, a10, a11⟩ := (show _ from hE5.a); obtain ⟨g2, cap2, rfl, hg2b⟩ := row_shape hown5' hnn5)
      refine (refE_good p hp hg L _ ⟨hLn.out, hE5.la⟩).mono ?_
      rintro e w6 ⟨rfl, hb6⟩
      clear a0 a1 a2 a3 a4 a5 a6 a7 a8 a9 a10 a11 b0 b1 b2 b3 b4 b5 b6 b7 b8 b9 b10 b11
      have hE6 := hE5.step hb6
      have hown6 := hown5'.kept (w' := w6) (row := none) ⟨hb6.os, hb6.tape, hb6.output, hb6.size, fun k hk _ => hb6.block k hk⟩ (by simp [Value.ownBlock])
      have hB6 := hb5.trans (hb6.mono hb5.size)
      clear hb5 hb6 hown5' hE5
      obtain ⟨a0, a1, a2, a3, a4, a5, a6, a7, a8, a9, a10, a11⟩ := (show _ from hE6.a)
      obtain ⟨b0, b1, b2, b3, b4, b5, b6, b7, b8, b9, b10, b11⟩ := (show _ from hE6.b)
      dsimp only at b0 b1 b2 b3 b4 b5 b6 b7 b8 b9 b10 b11
      go_wp2_with fail
      refine (lost_eq (some ⟨g, 0, none⟩) p.la p.ln cap p.lc L _ hLn.out (by omega) hE6.lb hE6.la).mono ?_
      rintro e w7 ⟨rfl, hb7⟩
      clear a0 a1 a2 a3 a4 a5 a6 a7 a8 a9 a10 a11 b0 b1 b2 b3 b4 b5 b6 b7 b8 b9 b10 b11
      have hown7 := hown6.kept (w' := w7) (row := none) ⟨hb7.os, hb7.tape, hb7.output, hb7.size, fun k hk _ => hb7.block k hk⟩ (by simp [Value.ownBlock])
      have hB7 := hB6.trans (hb7.mono hB6.size)
      clear hB6 hb7 hown6 hE6
      have hcv := conv_row w7 _ _ (encB p L) hown7 hnn5
      go_wp2_with fail
      clear hcv
      have hxl : (encB p L).length ≤ 65536 := encB_len hLn.out hgf.2.2.2.2 hgp.2.2.2.2.2.1
      have hbase : wr.heap.size < g2 := by omega
      go_loopw [10] (fun i wx => ∃ (j : Nat) (ys : List Int), j ≤ (encB p L).length ∧ i = .int .i64 j ∧ ys.length = (encB p L).length ∧ wx.ownsRow (wr.heap.size + 1) 5 1 (.slice (some ⟨g2, 0, none⟩) (encB p L).length cap2) (encB p L).length (U ys) ∧ Below wr.heap.size wr wx) (fun i _ => (encB p L).length - (intOf i).toNat)
      case atStart => exact ⟨0, encB p L, Nat.zero_le _, rfl, rfl, hown7, hB7⟩
      case round =>
        clear hown7 hB7
        obtain ⟨j, ys, hj, rfl, hyl, ho, hB⟩ := hrel
        by_cases hjl : j < (encB p L).length
        · have hcl : wr.cell? ⟨g2, j, none⟩ = some (.int .u8 (ys.getD j 0)) := by
            rw [ho.cellAt j (by omega)]
            simp [U, List.getD, List.getElem?_eq_getElem (show j < ys.length by omega)]
          generalize ys.getD j 0 = y at hcl
          have hfz := ho.frozenAt j
          have hst := fun x => (ho.stored j (.int .u8 x)).1
          simp only [← U_set] at hst
          have hyl' := (show Hid _ from hyl)
          clear hyl
          go_wp2
          go_roundw
          case rel =>
            exact ⟨j + 1, ys.set j _, by omega, by go_num, by rw [List.length_set]; exact hyl'.out, hst _, hB.setCell (by simp; omega) _⟩
          case measure => simp [intOf]; omega
        · obtain rfl : j = (encB p L).length := by omega
          clear hj hjl hyl
          go_wp2
          go_roundw
          case rel => exact ⟨k + 1, by omega, by go_num, hE.step hB⟩
          case measure => simp [intOf]; omega
    · obtain rfl : k = 2 := by omega
      go_wp2
      go_ret
      exact ⟨rfl, hE.below⟩
end Go.Proofs.Ytmahaccaglaldaa
