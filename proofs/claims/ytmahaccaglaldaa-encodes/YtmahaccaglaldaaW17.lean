import Derived.Test.YtmahaccaglaldaaW16
namespace Go.Proofs.Ytmahaccaglaldaa
open Go.RowKit

set_option maxRecDepth 100000 in
set_option maxHeartbeats 4000000 in
theorem Encodes_bad (p : Pkt) (hp : p.Wf) (hg : p.goodB = false) (hln : p.ln ≤ 4096) (L : List (Int × Int)) (w : World) (hL : HoldsL w p L) :
    Calls Try.prog 3 #[p.val] w fun e w' => e = .returned (.bool true) ∧ Below w.heap.size w w' := by
  have hpay := hp.pay1
  obtain ⟨i0, hi, hz0, hz1, hz2⟩ := info_parts info_lost
  have hA : HoldsA w p.la L := hL.2
  have hLn : Hid (L.length = p.ln) := hL.1
  have e1 : decide (65536 < (p.pay.size : Int)) = false := decide_eq_false (by omega)
  have e2 : decide (4096 < (p.ln : Int)) = false := decide_eq_false (by omega)
  have hown := World.ownsRow_made (base := w.heap.size + 2) (e := 49) (size := 2) ((w.alloc p.box).alloc p.box) #[] 0 (by simp) (by unfold maxLen; omega) rfl
  dsimp only [Pkt.box] at hown
  simp only [World.size_alloc] at hown
  have hBw := (((Below.refl w.heap.size w).alloc (Nat.le_refl _) p.box).alloc (by simp) p.box).alloc (by simp; omega) (.cells #[] 49)
  dsimp only [Pkt.box] at hBw
  have hsrc := src_lost (hA.below hBw) p.ln p.lc hLn.out
  have hlast : (((w.alloc p.box).alloc p.box).alloc (.cells #[] 49)).heap.size = w.heap.size + 3 := by simp
  dsimp only [Pkt.box] at hlast
  go_enter Try.func3, Try.ntmps3
  go_wp2_with (at_builtin; refine wpList_append_own_src _ rfl _ _ 24 24 rfl (w.heap.size + 2) 49 i0 (.agg #[.int .u32 0, .int .u32 0]) 2 8 Try.underlying24 hi hz0 hz1 hz2 rfl (.slice (some ⟨w.heap.size + 1 + 1, 0, none⟩) 0 0) 0 [] rfl hown (by simp) (.slice p.la p.ln p.lc) p.ln (LC L) rfl hsrc ?c1 ?c2 ?c3 ?_)
  case c1 => unfold maxLen; omega
  case c2 => omega
  case c3 => rw [hlast]; omega
  intro v' W1 hown' hgrow hnn'
  have hB1 : Below (w.heap.size + 2) (((w.alloc p.box).alloc p.box).alloc (.cells #[] 49)) W1 :=
    (Below.refl _ _).grown hgrow (by simp) (fun k hk => by simp [Value.ownBlock] at hk; omega)
  have hown'' : W1.ownsRow (w.heap.size + 2) 49 2 v' p.ln (LC L) := by simpa using hown'
  obtain ⟨⟨hc10, hf10⟩, g, cap, rfl, hE⟩ := EInv.start p L w W1 v' hA hown'' hnn' hB1
  clear hown hBw hsrc hlast hown' hgrow hB1 hown'' hnn' hi hz0 hz1 hz2
  go_wp2_with fail
  clear hc10 hf10
  generalize W1.setCell _ _ = W2 at hE ⊢
  have hq : ({ p with la := some ⟨g, 0, none⟩, lc := cap } : Pkt).Wf := ⟨hp.ttl0, hp.ttl1, hp.kind0, hp.kind1, hp.hops0, hp.hops1, hp.id0, hp.id1, hp.dest0, hp.dest1, hp.dseq0, hp.dseq1, hp.frm0, hp.frm1, hp.fseq0, hp.fseq1, hp.life0, hp.life1, hp.ln1, hp.pay1⟩
  have hgq : ({ p with la := some ⟨g, 0, none⟩, lc := cap } : Pkt).goodB = false := (goodB_la p _ _).trans hg
  clear hL hA
  go_loopw [4] (fun i wr => ∃ k : Nat, k ≤ 2 ∧ i = .int .i64 k ∧ EInv p { p with la := some ⟨g, 0, none⟩, lc := cap } L w wr) (fun i _ => 2 - (intOf i).toNat)
  case atStart => exact ⟨0, by omega, rfl, hE⟩
  case round =>
    clear hE
    obtain ⟨k, hk, rfl, hE⟩ := hrel
    by_cases hlt : k < 2
    · obtain ⟨b0, b1, b2, b3, b4, b5, b6, b7, b8, b9, b10, b11⟩ := (show _ from hE.b)
      dsimp only at b0 b1 b2 b3 b4 b5 b6 b7 b8 b9 b10 b11
      go_wp2_with (go_at_call 6; refine (Encode_bad { p with la := some ⟨g, 0, none⟩, lc := cap } hq hgq _).mono ?_; rintro e w5 ⟨rfl, hb5⟩; have hE5 := hE.step hb5; obtain ⟨a0, a1, a2, a3, a4, a5, a6, a7, a8, a9, a10, a11⟩ := (show _ from hE5.a))
      refine (refE_bad p hp hg L _ ⟨hLn.out, hE5.la⟩).mono ?_
      rintro e w6 ⟨rfl, hb6⟩
      clear a0 a1 a2 a3 a4 a5 a6 a7 a8 a9 a10 a11 b0 b1 b2 b3 b4 b5 b6 b7 b8 b9 b10 b11
      have hE6 := hE5.step hb6
      have hB6 := hb5.trans (hb6.mono hb5.size)
      clear hb5 hb6 hE5
      obtain ⟨a0, a1, a2, a3, a4, a5, a6, a7, a8, a9, a10, a11⟩ := (show _ from hE6.a)
      obtain ⟨b0, b1, b2, b3, b4, b5, b6, b7, b8, b9, b10, b11⟩ := (show _ from hE6.b)
      dsimp only at b0 b1 b2 b3 b4 b5 b6 b7 b8 b9 b10 b11
      go_wp2_with fail
      refine (lost_eq (some ⟨g, 0, none⟩) p.la p.ln cap p.lc L _ hLn.out (by omega) hE6.lb hE6.la).mono ?_
      rintro e w7 ⟨rfl, hb7⟩
      clear a0 a1 a2 a3 a4 a5 a6 a7 a8 a9 a10 a11 b0 b1 b2 b3 b4 b5 b6 b7 b8 b9 b10 b11
      have hB7 := hB6.trans (hb7.mono hB6.size)
      clear hB6 hb7 hE6
      have hcv : (convert 27 9 (.slice none 0 0)).run Try.prog w7 = .ok (.string ⟨#[]⟩) w7 := run_convert_bytes_nil (P := Try.prog) w7 27 5 Try.underlying27 Try.underlying5 0 0 9 Try.underlying9
      go_wp2_with fail
      clear hcv
      go_rounds 1
      all_goals go_roundw
      case rel => exact ⟨k + 1, by omega, by go_num, hE.step hB7⟩
      case measure => simp [intOf]; omega
    · obtain rfl : k = 2 := by omega
      go_wp2
      go_ret
      exact ⟨rfl, hE.below⟩
end Go.Proofs.Ytmahaccaglaldaa
