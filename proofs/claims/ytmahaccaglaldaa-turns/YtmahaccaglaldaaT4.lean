import Derived.Test.YtmahaccaglaldaaT3
namespace Go.Proofs.Ytmahaccaglaldaa
open Go.RowKit

set_option maxRecDepth 100000 in
set_option maxHeartbeats 4000000 in
theorem Turns_bad (p : Pkt) (hp : p.Wf) (hg : p.goodB = false) (hln : p.ln ≤ 4096) (s : ByteArray) (hs : s.size ≤ 65536) (L : List (Int × Int)) (w : World) (hL : HoldsL w p L) :
    Calls Try.prog 5 #[p.val, .string s] w fun e w' => e = .returned (.bool true) ∧ Below w.heap.size w w' := by
  have hpay := hp.pay1
  have hA : HoldsA w p.la L := hL.2
  have hT0 := TInv.start hA
  have e0 : decide (65536 < (s.size : Int)) = false := decide_eq_false (by omega)
  have e1 : decide (65536 < (p.pay.size : Int)) = false := decide_eq_false (by omega)
  have e2 : decide (4096 < (p.ln : Int)) = false := decide_eq_false (by omega)
  go_enter Try.func5, Try.ntmps5
  go_wp2_with fail
  dsimp only [Pkt.box] at hT0
  clear hL hA
  generalize World.alloc _ _ = W0 at hT0 ⊢
  refine (pkX_good _).mono ?_
  rintro e W1 ⟨_, rfl, hb1, g1, cap1, rfl⟩
  have hT1 := hT0.step hb1
  clear hT0 hb1
  obtain ⟨a0, a1, a2, a3, a4, a5, a6, a7, a8, a9, a10, a11⟩ := hT1.pb.cell
  have af := hT1.pb.free
  go_wp2_with fail
  refine (Encode_bad p hp hg _).mono ?_
  rintro e W2 ⟨rfl, hb2⟩
  have hB12 := (hT1.step hb2).bl
  clear a0 a1 a2 a3 a4 a5 a6 a7 a8 a9 a10 a11 af hT1 hb2
  have hcv := fun w => run_bytes_of_string (P := Try.prog) w 9 27 5 s Try.underlying9 Try.underlying27 Try.underlying5
  go_wp2_with fail
  refine (Decode_any _ (strNums s) _ ?hr).mono ?_
  case hr =>
    have h := rest_new s hs W2 ((bytesRow s (grownCap W2 s.size 0 5)).size, (bytesRow s (grownCap W2 s.size 0 5)).size + 1)
    exact h
  rintro e W13 ⟨hb13, h13⟩
  have hB13 : Below w.heap.size w W13 := by
    have hs12 := hB12.size
    have h12 := (hB12.alloc hs12 (.cells (bytesRow s (grownCap W2 s.size 0 5)) 5 ((bytesRow s (grownCap W2 s.size 0 5)).size, (bytesRow s (grownCap W2 s.size 0 5)).size + 1))).drew
    exact h12.trans (hb13.mono h12.size)
  clear hB12 hb13 hcv
  rcases h13 with ⟨hF, v, rfl, hrd⟩ | ⟨_, rfl⟩
  · obtain ⟨q, M, rfl, hq, hgq, hM, hE, _⟩ := hrd.back (strNums_b s) hF
    have hb14 : Below W13.heap.size W13 (W13.alloc q.box) := (Below.refl _ _).alloc (Nat.le_refl _) _
    have hB14 := hB13.trans (hb14.mono hB13.size)
    have hM14 : HoldsL (W13.alloc q.box) q M := hM.below hb14
    have hgp' := good_parts hgq
    have hgf' := good_fits hgq
    have hE' := (show Hid _ from hE)
    clear hE hrd hM hb14
    dsimp only [Pkt.box] at hB14 hM14
    go_wp2_with fail
    refine (Encode_good q hq hgq hgp'.2.1 hgp'.2.2.1 hgf'.1 hgf'.2.1 hgf'.2.2.1 hgf'.2.2.2.1 hgf'.2.2.2.2 hgp'.2.2.2.2.2.1 M _ hM14).mono ?_
    rintro e W15 ⟨v15, rfl, hb15, hv15, ho15⟩
    have hcv := conv_row W15 _ _ (encB q M) ho15 hv15
    rw [hE'.out, strOfNums_strNums] at hcv
    have hB15 := hB14.trans (hb15.mono hB14.size)
    clear hM14 hB14 hb15 hB13
    go_wp2_with fail
    go_ret
    exact ⟨rfl, hB15⟩
  · go_wp2_with fail
    go_ret
    exact ⟨rfl, hB13.alloc hB13.size _⟩
end Go.Proofs.Ytmahaccaglaldaa
