import Derived.Test.YtmahaccaglaldaaW10
namespace Go.Proofs.Ytmahaccaglaldaa
open Go.RowKit

set_option maxRecDepth 100000 in
set_option maxHeartbeats 4000000 in
theorem refE_1t (p : Pkt) (hp : p.Wf) (hk : p.kind = 1) (hu : p.unk = true) (hl : p.likeB = true) (ht0 : 1 ≤ p.ttl) (ht1 : p.ttl ≤ 255) (hh0 : 0 ≤ p.hops) (hh1 : p.hops ≤ 255) (hpay : p.pay.size ≤ 16)
    (L : List (Int × Int)) (w : World) (hL : HoldsL w p L) :
    Calls Try.prog 7 #[p.val] w fun e w' => e = .returned (.tuple #[.string (strOfNums ([p.ttl, 1, 8, 0, p.hops] ++ b4 p.id ++ b4 p.dest ++ b4 p.dseq ++ b4 p.frm ++ b4 p.fseq)), .int .i64 0]) ∧ Below w.heap.size w w' := by
  have hpw := hp
  obtain ⟨ttl, kind, hops, unk, id, dest, dseq, frm, fseq, life, la, ln, lc, pay⟩ := p
  simp only at hk
  subst hk
  simp only at hu
  subst hu
  obtain ⟨_, _, _, _, _, _, i0, i1, d0, d1, s0, s1, f0, f1, fs0, fs1, l0, l1, hln, _⟩ := hp
  dsimp only at *
  go_enter Try.func7, Try.ntmps7
  go_wp2_with (go_at_call 18; refine (own_any ⟨ttl, 1, hops, true, id, dest, dseq, frm, fseq, life, la, ln, lc, pay⟩ _).mono ?_; rintro e w1 ⟨rfl, hb1⟩; have hI1 := (InB.start0 ⟨ttl, 1, hops, true, id, dest, dseq, frm, fseq, life, la, ln, lc, pay⟩ w).below hb1; obtain ⟨c0, c1, c2, c3, c4, c5, c6, c7, c8, c9, c10, c11, hs, hB⟩ := (show _ from hI1); dsimp only at c0 c1 c2 c3 c4 c5 c6 c7 c8 c9 c10 c11)
  clear c0 c1 c2 c3 c4 c5 c6 c7 c8 c9 c10 c11
  have hI2 := hI1.alloc (Pkt.box (Pkt.ownP ⟨ttl, 1, hops, true, id, dest, dseq, frm, fseq, life, la, ln, lc, pay⟩))
  have hL2 := hL.below hI2.2.2.2.2.2.2.2.2.2.2.2.2.2
  clear hB hs hI1 hb1
  refine (alike_own ⟨ttl, 1, hops, true, id, dest, dseq, frm, fseq, life, la, ln, lc, pay⟩ hpw L _ hL2).mono ?_
  rintro e w2 ⟨rfl, hb2⟩
  have hI := hI2.below hb2
  clear hI2 hL2 hb2
  obtain ⟨c0, c1, c2, c3, c4, c5, c6, c7, c8, c9, c10, c11, hs, hB⟩ := (show _ from hI)
  dsimp only at c0 c1 c2 c3 c4 c5 c6 c7 c8 c9 c10 c11
  have hsz := strOfNums_size
  go_wp2_with fail
  clear c0 c1 c2 c3 c4 c5 c6 c7 c8 c9 c10 c11 hs hB
  go_region_held3 (InB ⟨ttl, 1, hops, true, id, dest, dseq, frm, fseq, life, la, ln, lc, pay⟩ w) (first | exact InB.drew' (by assumption) | assumption | exact InB.below (by assumption) (by assumption)) (first
    | (go_at_call 20; refine (byteOf_any _ _ (by omega) (by omega)).mono ?_; rintro e w3 ⟨rfl, hb3⟩)
    | (go_at_call 21; refine (four_any _ _ (by omega) (by omega)).mono ?_; rintro e w4 ⟨rfl, hb4⟩))
  obtain ⟨c0, c1, c2, c3, c4, c5, c6, c7, c8, c9, c10, c11, hs, hB⟩ : InB ⟨ttl, 1, hops, true, id, dest, dseq, frm, fseq, life, la, ln, lc, pay⟩ w _ := by assumption
  dsimp only at c0 c1 c2 c3 c4 c5 c6 c7 c8 c9 c10 c11
  go_wp2_with fail
  clear c0 c1 c2 c3 c4 c5 c6 c7 c8 c9 c10 c11 hs hB
  go_region_held3 (InB ⟨ttl, 1, hops, true, id, dest, dseq, frm, fseq, life, la, ln, lc, pay⟩ w) (first | exact InB.drew' (by assumption) | assumption | exact InB.below (by assumption) (by assumption)) (first
    | (go_at_call 20; refine (byteOf_any _ _ (by omega) (by omega)).mono ?_; rintro e w3 ⟨rfl, hb3⟩)
    | (go_at_call 21; refine (four_any _ _ (by omega) (by omega)).mono ?_; rintro e w4 ⟨rfl, hb4⟩))
  obtain ⟨_, _, _, _, _, _, _, _, _, _, _, _, _, hB⟩ : InB ⟨ttl, 1, hops, true, id, dest, dseq, frm, fseq, life, la, ln, lc, pay⟩ w _ := by assumption
  go_wp2
  go_ret2
  refine ⟨?_, hB⟩
  go_light
  rw [show (ByteArray.mk #[0]) = strOfNums [0] from rfl]
  simp only [strOfNums_append]
  rfl

end Go.Proofs.Ytmahaccaglaldaa

namespace Go.Proofs.Ytmahaccaglaldaa
open Go.RowKit

set_option maxRecDepth 100000 in
set_option maxHeartbeats 4000000 in
theorem refE_1f (p : Pkt) (hp : p.Wf) (hk : p.kind = 1) (hu : p.unk = false) (hl : p.likeB = true) (ht0 : 1 ≤ p.ttl) (ht1 : p.ttl ≤ 255) (hh0 : 0 ≤ p.hops) (hh1 : p.hops ≤ 255) (hpay : p.pay.size ≤ 16)
    (L : List (Int × Int)) (w : World) (hL : HoldsL w p L) :
    Calls Try.prog 7 #[p.val] w fun e w' => e = .returned (.tuple #[.string (strOfNums ([p.ttl, 1, 0, 0, p.hops] ++ b4 p.id ++ b4 p.dest ++ b4 p.dseq ++ b4 p.frm ++ b4 p.fseq)), .int .i64 0]) ∧ Below w.heap.size w w' := by
  have hpw := hp
  obtain ⟨ttl, kind, hops, unk, id, dest, dseq, frm, fseq, life, la, ln, lc, pay⟩ := p
  simp only at hk
  subst hk
  simp only at hu
  subst hu
  obtain ⟨_, _, _, _, _, _, i0, i1, d0, d1, s0, s1, f0, f1, fs0, fs1, l0, l1, hln, _⟩ := hp
  dsimp only at *
  go_enter Try.func7, Try.ntmps7
  go_wp2_with (go_at_call 18; refine (own_any ⟨ttl, 1, hops, false, id, dest, dseq, frm, fseq, life, la, ln, lc, pay⟩ _).mono ?_; rintro e w1 ⟨rfl, hb1⟩; have hI1 := (InB.start0 ⟨ttl, 1, hops, false, id, dest, dseq, frm, fseq, life, la, ln, lc, pay⟩ w).below hb1; obtain ⟨c0, c1, c2, c3, c4, c5, c6, c7, c8, c9, c10, c11, hs, hB⟩ := (show _ from hI1); dsimp only at c0 c1 c2 c3 c4 c5 c6 c7 c8 c9 c10 c11)
  clear c0 c1 c2 c3 c4 c5 c6 c7 c8 c9 c10 c11
  have hI2 := hI1.alloc (Pkt.box (Pkt.ownP ⟨ttl, 1, hops, false, id, dest, dseq, frm, fseq, life, la, ln, lc, pay⟩))
  have hL2 := hL.below hI2.2.2.2.2.2.2.2.2.2.2.2.2.2
  clear hB hs hI1 hb1
  refine (alike_own ⟨ttl, 1, hops, false, id, dest, dseq, frm, fseq, life, la, ln, lc, pay⟩ hpw L _ hL2).mono ?_
  rintro e w2 ⟨rfl, hb2⟩
  have hI := hI2.below hb2
  clear hI2 hL2 hb2
  obtain ⟨c0, c1, c2, c3, c4, c5, c6, c7, c8, c9, c10, c11, hs, hB⟩ := (show _ from hI)
  dsimp only at c0 c1 c2 c3 c4 c5 c6 c7 c8 c9 c10 c11
  have hsz := strOfNums_size
  go_wp2_with fail
  clear c0 c1 c2 c3 c4 c5 c6 c7 c8 c9 c10 c11 hs hB
  go_region_held3 (InB ⟨ttl, 1, hops, false, id, dest, dseq, frm, fseq, life, la, ln, lc, pay⟩ w) (first | exact InB.drew' (by assumption) | assumption | exact InB.below (by assumption) (by assumption)) (first
    | (go_at_call 20; refine (byteOf_any _ _ (by omega) (by omega)).mono ?_; rintro e w3 ⟨rfl, hb3⟩)
    | (go_at_call 21; refine (four_any _ _ (by omega) (by omega)).mono ?_; rintro e w4 ⟨rfl, hb4⟩))
  obtain ⟨c0, c1, c2, c3, c4, c5, c6, c7, c8, c9, c10, c11, hs, hB⟩ : InB ⟨ttl, 1, hops, false, id, dest, dseq, frm, fseq, life, la, ln, lc, pay⟩ w _ := by assumption
  dsimp only at c0 c1 c2 c3 c4 c5 c6 c7 c8 c9 c10 c11
  go_wp2_with fail
  clear c0 c1 c2 c3 c4 c5 c6 c7 c8 c9 c10 c11 hs hB
  go_region_held3 (InB ⟨ttl, 1, hops, false, id, dest, dseq, frm, fseq, life, la, ln, lc, pay⟩ w) (first | exact InB.drew' (by assumption) | assumption | exact InB.below (by assumption) (by assumption)) (first
    | (go_at_call 20; refine (byteOf_any _ _ (by omega) (by omega)).mono ?_; rintro e w3 ⟨rfl, hb3⟩)
    | (go_at_call 21; refine (four_any _ _ (by omega) (by omega)).mono ?_; rintro e w4 ⟨rfl, hb4⟩))
  obtain ⟨_, _, _, _, _, _, _, _, _, _, _, _, _, hB⟩ : InB ⟨ttl, 1, hops, false, id, dest, dseq, frm, fseq, life, la, ln, lc, pay⟩ w _ := by assumption
  go_wp2
  go_ret2
  refine ⟨?_, hB⟩
  go_light
  rw [show (ByteArray.mk #[0]) = strOfNums [0] from rfl]
  simp only [strOfNums_append]
  rfl

end Go.Proofs.Ytmahaccaglaldaa

namespace Go.Proofs.Ytmahaccaglaldaa
open Go.RowKit

set_option maxRecDepth 100000 in
set_option maxHeartbeats 4000000 in
theorem refE_2 (p : Pkt) (hp : p.Wf) (hk : p.kind = 2) (hl : p.likeB = true) (ht0 : 1 ≤ p.ttl) (ht1 : p.ttl ≤ 255) (hh0 : 0 ≤ p.hops) (hh1 : p.hops ≤ 255) (hpay : p.pay.size ≤ 16)
    (L : List (Int × Int)) (w : World) (hL : HoldsL w p L) :
    Calls Try.prog 7 #[p.val] w fun e w' => e = .returned (.tuple #[.string (strOfNums ([p.ttl, 2, 0, 0, p.hops] ++ b4 p.dest ++ b4 p.dseq ++ b4 p.frm ++ b4 p.life)), .int .i64 0]) ∧ Below w.heap.size w w' := by
  have hpw := hp
  obtain ⟨ttl, kind, hops, unk, id, dest, dseq, frm, fseq, life, la, ln, lc, pay⟩ := p
  simp only at hk
  subst hk
  obtain ⟨_, _, _, _, _, _, i0, i1, d0, d1, s0, s1, f0, f1, fs0, fs1, l0, l1, hln, _⟩ := hp
  dsimp only at *
  go_enter Try.func7, Try.ntmps7
  go_wp2_with (go_at_call 18; refine (own_any ⟨ttl, 2, hops, unk, id, dest, dseq, frm, fseq, life, la, ln, lc, pay⟩ _).mono ?_; rintro e w1 ⟨rfl, hb1⟩; have hI1 := (InB.start0 ⟨ttl, 2, hops, unk, id, dest, dseq, frm, fseq, life, la, ln, lc, pay⟩ w).below hb1; obtain ⟨c0, c1, c2, c3, c4, c5, c6, c7, c8, c9, c10, c11, hs, hB⟩ := (show _ from hI1); dsimp only at c0 c1 c2 c3 c4 c5 c6 c7 c8 c9 c10 c11)
  clear c0 c1 c2 c3 c4 c5 c6 c7 c8 c9 c10 c11
  have hI2 := hI1.alloc (Pkt.box (Pkt.ownP ⟨ttl, 2, hops, unk, id, dest, dseq, frm, fseq, life, la, ln, lc, pay⟩))
  have hL2 := hL.below hI2.2.2.2.2.2.2.2.2.2.2.2.2.2
  clear hB hs hI1 hb1
  refine (alike_own ⟨ttl, 2, hops, unk, id, dest, dseq, frm, fseq, life, la, ln, lc, pay⟩ hpw L _ hL2).mono ?_
  rintro e w2 ⟨rfl, hb2⟩
  have hI := hI2.below hb2
  clear hI2 hL2 hb2
  obtain ⟨c0, c1, c2, c3, c4, c5, c6, c7, c8, c9, c10, c11, hs, hB⟩ := (show _ from hI)
  dsimp only at c0 c1 c2 c3 c4 c5 c6 c7 c8 c9 c10 c11
  have hsz := strOfNums_size
  go_wp2_with fail
  clear c0 c1 c2 c3 c4 c5 c6 c7 c8 c9 c10 c11 hs hB
  go_region_held3 (InB ⟨ttl, 2, hops, unk, id, dest, dseq, frm, fseq, life, la, ln, lc, pay⟩ w) (first | exact InB.drew' (by assumption) | assumption | exact InB.below (by assumption) (by assumption)) (first
    | (go_at_call 20; refine (byteOf_any _ _ (by omega) (by omega)).mono ?_; rintro e w3 ⟨rfl, hb3⟩)
    | (go_at_call 21; refine (four_any _ _ (by omega) (by omega)).mono ?_; rintro e w4 ⟨rfl, hb4⟩))
  obtain ⟨c0, c1, c2, c3, c4, c5, c6, c7, c8, c9, c10, c11, hs, hB⟩ : InB ⟨ttl, 2, hops, unk, id, dest, dseq, frm, fseq, life, la, ln, lc, pay⟩ w _ := by assumption
  dsimp only at c0 c1 c2 c3 c4 c5 c6 c7 c8 c9 c10 c11
  go_wp2_with fail
  clear c0 c1 c2 c3 c4 c5 c6 c7 c8 c9 c10 c11 hs hB
  go_region_held3 (InB ⟨ttl, 2, hops, unk, id, dest, dseq, frm, fseq, life, la, ln, lc, pay⟩ w) (first | exact InB.drew' (by assumption) | assumption | exact InB.below (by assumption) (by assumption)) (first
    | (go_at_call 20; refine (byteOf_any _ _ (by omega) (by omega)).mono ?_; rintro e w3 ⟨rfl, hb3⟩)
    | (go_at_call 21; refine (four_any _ _ (by omega) (by omega)).mono ?_; rintro e w4 ⟨rfl, hb4⟩))
  obtain ⟨_, _, _, _, _, _, _, _, _, _, _, _, _, hB⟩ : InB ⟨ttl, 2, hops, unk, id, dest, dseq, frm, fseq, life, la, ln, lc, pay⟩ w _ := by assumption
  go_wp2
  go_ret2
  refine ⟨?_, hB⟩
  go_light
  rw [show (ByteArray.mk #[0, 0]) = strOfNums [0, 0] from rfl]
  simp only [strOfNums_append]
  rfl

end Go.Proofs.Ytmahaccaglaldaa

namespace Go.Proofs.Ytmahaccaglaldaa
open Go.RowKit

theorem append_pay (xs : List Int) (s : ByteArray) : strOfNums xs ++ s = strOfNums (xs ++ strNums s) := by
  rw [← strOfNums_append, strOfNums_strNums]

set_option maxRecDepth 100000 in
set_option maxHeartbeats 4000000 in
theorem refE_9 (p : Pkt) (hp : p.Wf) (hk : p.kind = 9) (hl : p.likeB = true) (ht0 : 1 ≤ p.ttl) (ht1 : p.ttl ≤ 255) (hh0 : 0 ≤ p.hops) (hh1 : p.hops ≤ 255) (hpay : p.pay.size ≤ 16)
    (L : List (Int × Int)) (w : World) (hL : HoldsL w p L) :
    Calls Try.prog 7 #[p.val] w fun e w' => e = .returned (.tuple #[.string (strOfNums ([p.ttl, 9, 0, 0, (p.pay.size : Int)] ++ b4 p.id ++ b4 p.dest ++ b4 p.frm ++ strNums p.pay)), .int .i64 0]) ∧ Below w.heap.size w w' := by
  have hpw := hp
  obtain ⟨ttl, kind, hops, unk, id, dest, dseq, frm, fseq, life, la, ln, lc, pay⟩ := p
  simp only at hk
  subst hk
  obtain ⟨_, _, _, _, _, _, i0, i1, d0, d1, s0, s1, f0, f1, fs0, fs1, l0, l1, hln, _⟩ := hp
  dsimp only at *
  go_enter Try.func7, Try.ntmps7
  go_wp2_with (go_at_call 18; refine (own_any ⟨ttl, 9, hops, unk, id, dest, dseq, frm, fseq, life, la, ln, lc, pay⟩ _).mono ?_; rintro e w1 ⟨rfl, hb1⟩; have hI1 := (InB.start0 ⟨ttl, 9, hops, unk, id, dest, dseq, frm, fseq, life, la, ln, lc, pay⟩ w).below hb1; obtain ⟨c0, c1, c2, c3, c4, c5, c6, c7, c8, c9, c10, c11, hs, hB⟩ := (show _ from hI1); dsimp only at c0 c1 c2 c3 c4 c5 c6 c7 c8 c9 c10 c11)
  clear c0 c1 c2 c3 c4 c5 c6 c7 c8 c9 c10 c11
  have hI2 := hI1.alloc (Pkt.box (Pkt.ownP ⟨ttl, 9, hops, unk, id, dest, dseq, frm, fseq, life, la, ln, lc, pay⟩))
  have hL2 := hL.below hI2.2.2.2.2.2.2.2.2.2.2.2.2.2
  clear hB hs hI1 hb1
  refine (alike_own ⟨ttl, 9, hops, unk, id, dest, dseq, frm, fseq, life, la, ln, lc, pay⟩ hpw L _ hL2).mono ?_
  rintro e w2 ⟨rfl, hb2⟩
  have hI := hI2.below hb2
  clear hI2 hL2 hb2
  obtain ⟨c0, c1, c2, c3, c4, c5, c6, c7, c8, c9, c10, c11, hs, hB⟩ := (show _ from hI)
  dsimp only at c0 c1 c2 c3 c4 c5 c6 c7 c8 c9 c10 c11
  have hsz := strOfNums_size
  have hz17 : ¬ 9223372036854775807 < 17 + pay.size := by omega
  go_wp2_with fail
  clear c0 c1 c2 c3 c4 c5 c6 c7 c8 c9 c10 c11 hs hB
  go_region_held3 (InB ⟨ttl, 9, hops, unk, id, dest, dseq, frm, fseq, life, la, ln, lc, pay⟩ w) (first | exact InB.drew' (by assumption) | assumption | exact InB.below (by assumption) (by assumption)) (first
    | (go_at_call 20; refine (byteOf_any _ _ (by omega) (by omega)).mono ?_; rintro e w3 ⟨rfl, hb3⟩)
    | (go_at_call 21; refine (four_any _ _ (by omega) (by omega)).mono ?_; rintro e w4 ⟨rfl, hb4⟩))
  obtain ⟨c0, c1, c2, c3, c4, c5, c6, c7, c8, c9, c10, c11, hs, hB⟩ : InB ⟨ttl, 9, hops, unk, id, dest, dseq, frm, fseq, life, la, ln, lc, pay⟩ w _ := by assumption
  dsimp only at c0 c1 c2 c3 c4 c5 c6 c7 c8 c9 c10 c11
  go_wp2_with fail
  clear c0 c1 c2 c3 c4 c5 c6 c7 c8 c9 c10 c11 hs hB
  go_region_held3 (InB ⟨ttl, 9, hops, unk, id, dest, dseq, frm, fseq, life, la, ln, lc, pay⟩ w) (first | exact InB.drew' (by assumption) | assumption | exact InB.below (by assumption) (by assumption)) (first
    | (go_at_call 20; refine (byteOf_any _ _ (by omega) (by omega)).mono ?_; rintro e w3 ⟨rfl, hb3⟩)
    | (go_at_call 21; refine (four_any _ _ (by omega) (by omega)).mono ?_; rintro e w4 ⟨rfl, hb4⟩))
  obtain ⟨_, _, _, _, _, _, _, _, _, _, _, _, _, hB⟩ : InB ⟨ttl, 9, hops, unk, id, dest, dseq, frm, fseq, life, la, ln, lc, pay⟩ w _ := by assumption
  go_wp2
  go_ret2
  refine ⟨?_, hB⟩
  go_light
  rw [show (ByteArray.mk #[0, 0]) = strOfNums [0, 0] from rfl]
  simp only [strOfNums_append]
  rw [append_pay]
  rfl

end Go.Proofs.Ytmahaccaglaldaa

namespace Go.Proofs.Ytmahaccaglaldaa
open Go.RowKit

/-- The box, and one that is lost. -/
@[reducible] def InBL (p : Pkt) (w : World) (lb lo : Nat) (d s : Int) (W : World) : Prop :=
  InB p w W ∧ W.cell? ⟨lb, lo, none⟩ = some (.int .u32 d) ∧ W.cell? ⟨lb, lo + 1, none⟩ = some (.int .u32 s)
theorem InBL.drew {p : Pkt} {w : World} {lb lo : Nat} {d s : Int} {W : World} (h : InBL p w lb lo d s W) : InBL p w lb lo d s W.drew := ⟨h.1.drew', h.2⟩
theorem InBL.below {p : Pkt} {w : World} {lb lo : Nat} {d s : Int} {W W1 : World} (h : InBL p w lb lo d s W) (hlb : lb < w.heap.size) (hb : Below W.heap.size W W1) : InBL p w lb lo d s W1 := by
  have hs := h.1.2.2.2.2.2.2.2.2.2.2.2.2.1
  exact ⟨h.1.below hb, (hb.cell (p := ⟨lb, lo, none⟩) (Nat.lt_trans hlb hs)).trans h.2.1, (hb.cell (p := ⟨lb, lo + 1, none⟩) (Nat.lt_trans hlb hs)).trans h.2.2⟩

set_option maxRecDepth 100000 in
set_option maxHeartbeats 4000000 in
theorem refE_3 (p : Pkt) (hp : p.Wf) (hk : p.kind = 3) (hl : p.likeB = true) (ht0 : 1 ≤ p.ttl) (ht1 : p.ttl ≤ 255) (hh0 : 0 ≤ p.hops) (hh1 : p.hops ≤ 255) (hpay : p.pay.size ≤ 16) (hn0 : 1 ≤ p.ln) (hn1 : p.ln ≤ 8)
    (L : List (Int × Int)) (w : World) (hL : HoldsL w p L) :
    Calls Try.prog 7 #[p.val] w fun e w' => e = .returned (.tuple #[.string (strOfNums ([p.ttl, 3, 0, 0, (p.ln : Int)] ++ lostB L p.ln)), .int .i64 0]) ∧ Below w.heap.size w w' := by
  have hpw := hp
  obtain ⟨ttl, kind, hops, unk, id, dest, dseq, frm, fseq, life, la, ln, lc, pay⟩ := p
  simp only at hk
  subst hk
  obtain ⟨_, _, _, _, _, _, i0, i1, d0, d1, s0, s1, f0, f1, fs0, fs1, l0, l1, hln, _⟩ := hp
  dsimp only at *
  have e1 : decide (ttl < 1) = false := decide_eq_false (by omega)
  have e2 : decide (255 < ttl) = false := decide_eq_false (by omega)
  have e3 : decide (hops < 0) = false := decide_eq_false (by omega)
  have e4 : decide (255 < hops) = false := decide_eq_false (by omega)
  have e5 : decide (16 < (pay.size : Int)) = false := decide_eq_false (by omega)
  have e6 : decide ((ln : Int) < 1) = false := decide_eq_false (by omega)
  have e7 : decide (8 < (ln : Int)) = false := decide_eq_false (by omega)
  go_enter Try.func7, Try.ntmps7
  go_wp2_with (go_at_call 18; refine (own_any ⟨ttl, 3, hops, unk, id, dest, dseq, frm, fseq, life, la, ln, lc, pay⟩ _).mono ?_; rintro e w1 ⟨rfl, hb1⟩; have hI1 := (InB.start0 ⟨ttl, 3, hops, unk, id, dest, dseq, frm, fseq, life, la, ln, lc, pay⟩ w).below hb1; obtain ⟨c0, c1, c2, c3, c4, c5, c6, c7, c8, c9, c10, c11, hs, hB⟩ := (show _ from hI1); dsimp only at c0 c1 c2 c3 c4 c5 c6 c7 c8 c9 c10 c11)
  clear c0 c1 c2 c3 c4 c5 c6 c7 c8 c9 c10 c11
  have hI2 := hI1.alloc (Pkt.box (Pkt.ownP ⟨ttl, 3, hops, unk, id, dest, dseq, frm, fseq, life, la, ln, lc, pay⟩))
  have hL2 := hL.below hI2.2.2.2.2.2.2.2.2.2.2.2.2.2
  clear hB hs hI1 hb1
  refine (alike_own ⟨ttl, 3, hops, unk, id, dest, dseq, frm, fseq, life, la, ln, lc, pay⟩ hpw L _ hL2).mono ?_
  rintro e w2 ⟨rfl, hb2⟩
  have hI := hI2.below hb2
  clear hI2 hL2 hb2
  obtain ⟨c0, c1, c2, c3, c4, c5, c6, c7, c8, c9, c10, c11, hs, hB⟩ := (show _ from hI)
  dsimp only at c0 c1 c2 c3 c4 c5 c6 c7 c8 c9 c10 c11
  have hsz := strOfNums_size
  go_wp2_with fail
  clear c0 c1 c2 c3 c4 c5 c6 c7 c8 c9 c10 c11 hs hB
  go_region_held3 (InB ⟨ttl, 3, hops, unk, id, dest, dseq, frm, fseq, life, la, ln, lc, pay⟩ w) (first | exact InB.drew' (by assumption) | assumption | exact InB.below (by assumption) (by assumption)) (first
    | (go_at_call 20; refine (byteOf_any _ _ (by omega) (by omega)).mono ?_; rintro e w3 ⟨rfl, hb3⟩)
    | (go_at_call 21; refine (four_any _ _ (by omega) (by omega)).mono ?_; rintro e w4 ⟨rfl, hb4⟩))
  obtain ⟨c0, c1, c2, c3, c4, c5, c6, c7, c8, c9, c10, c11, hs, hB⟩ : InB ⟨ttl, 3, hops, unk, id, dest, dseq, frm, fseq, life, la, ln, lc, pay⟩ w _ := by assumption
  dsimp only at c0 c1 c2 c3 c4 c5 c6 c7 c8 c9 c10 c11
  go_wp2_with (go_at_call 20; refine (byteOf_any _ _ (by omega) (by omega)).mono ?_; rintro e w5 ⟨rfl, hb5⟩)
  have hJ := InB.below (⟨c0, c1, c2, c3, c4, c5, c6, c7, c8, c9, c10, c11, hs, hB⟩ : InB ⟨ttl, 3, hops, unk, id, dest, dseq, frm, fseq, life, la, ln, lc, pay⟩ w _) hb5
  clear c0 c1 c2 c3 c4 c5 c6 c7 c8 c9 c10 c11 hs hB hb5
  rw [show (ByteArray.mk #[0, 0]) = strOfNums [0, 0] from rfl]
  rw [strOfNums_append, strOfNums_append, strOfNums_append]
  rw [show [ttl] ++ [3] ++ [0, 0] ++ [(ln : Int)] = [ttl, 3, 0, 0, (ln : Int)] ++ lostB L 0 by simp [lostB]]
  go_loopw [8, 9] (fun s i wr => ∃ k : Nat, k ≤ ln ∧ i = .int .i64 k ∧ s = .string (strOfNums ([ttl, 3, 0, 0, (ln : Int)] ++ lostB L k)) ∧ InB ⟨ttl, 3, hops, unk, id, dest, dseq, frm, fseq, life, la, ln, lc, pay⟩ w wr) (fun _ i _ => ln - (intOf i).toNat)
  case atStart => exact ⟨0, Nat.zero_le _, rfl, rfl, hJ⟩
  case round =>
    clear hJ
    obtain ⟨k, hk, rfl, rfl, hJ⟩ := hrel
    by_cases hlt : k < ln
    · obtain ⟨hLn, hLc⟩ := hL
      dsimp only at hLn
      obtain ⟨lb, lo, d, s, hpa, hlb, hds, hd0, hd1, hss0, hss1, hcd, hcs⟩ := hLc k (by omega)
      dsimp only at hpa
      subst hpa
      have hB := hJ.2.2.2.2.2.2.2.2.2.2.2.2.2
      have hQ : InBL ⟨ttl, 3, hops, unk, id, dest, dseq, frm, fseq, life, (some ⟨lb, lo, none⟩), ln, lc, pay⟩ w lb (lo + k * 2) d s wr := ⟨hJ, (hB.cell (p := ⟨lb, lo + k * 2, none⟩) hlb).trans hcd, (hB.cell (p := ⟨lb, lo + k * 2 + 1, none⟩) hlb).trans hcs⟩
      obtain ⟨⟨c0, c1, c2, c3, c4, c5, c6, c7, c8, c9, c10, c11, hs, hB⟩, cd, cs⟩ := (show _ from hQ)
      dsimp only at c0 c1 c2 c3 c4 c5 c6 c7 c8 c9 c10 c11
      have hst : Hid (lostB L (k + 1) = lostB L k ++ b4 d ++ b4 s) := lostB_succ hds
      have hlen := lostB_len L k
      have hxl : ([ttl, 3, 0, 0, (ln : Int)] ++ lostB L k).length ≤ 1000 := by
        simp only [List.length_append, List.length_cons, List.length_nil]
        omega
      clear hds hcd hcs hLc hlen
      generalize hxs : [ttl, 3, 0, 0, (ln : Int)] ++ lostB L k = xs at hxl ⊢
      have hxs' := (show Hid _ from hxs)
      clear hxs
      have n4 : ¬ 9223372036854775807 < xs.length + 4 := by omega
      have n8 : ¬ 9223372036854775807 < xs.length + 4 + 4 := by omega
      have n8' : ¬ 9223372036854775807 < xs.length + 8 := by omega
      have hk0 : (0 : Int) ≤ (k : Int) := by omega
      have hk1 : (k : Int) < (ln : Int) := by omega
      go_wp2_with fail
      clear c0 c1 c2 c3 c4 c5 c6 c7 c8 c9 c10 c11 hs hB cd cs
      go_region_held3 (InBL ⟨ttl, 3, hops, unk, id, dest, dseq, frm, fseq, life, (some ⟨lb, lo, none⟩), ln, lc, pay⟩ w lb (lo + k * 2) d s) (first | exact InBL.drew (by assumption) | assumption | exact InBL.below (by assumption) hlb (by assumption)) (first
            | (go_at_call 21; refine (four_any _ _ (by omega) (by omega)).mono ?_; rintro e w4 ⟨rfl, hb4⟩))
      obtain ⟨hJ2, _, _⟩ : InBL ⟨ttl, 3, hops, unk, id, dest, dseq, frm, fseq, life, (some ⟨lb, lo, none⟩), ln, lc, pay⟩ w lb (lo + k * 2) d s _ := by assumption
      go_wp2
      go_roundw
      case rel =>
        go_light
        repeat apply Exists.intro
        refine ⟨⟨k + 1, by omega, ?_, ?_, hJ2⟩, ?_⟩
        rotate_left 2
        · rfl
        · go_num
        · rw [hst.out, ← List.append_assoc, ← List.append_assoc, hxs'.out, ← strOfNums_append, ← strOfNums_append]; rfl
      case measure => simp [intOf]; omega
    · obtain rfl : k = ln := by omega
      obtain ⟨c0, c1, c2, c3, c4, c5, c6, c7, c8, c9, c10, c11, hs, hB⟩ := (show _ from hJ)
      dsimp only at c0 c1 c2 c3 c4 c5 c6 c7 c8 c9 c10 c11
      clear hk hlt hL
      go_wp2
      go_ret2
      exact ⟨rfl, hB⟩

end Go.Proofs.Ytmahaccaglaldaa
