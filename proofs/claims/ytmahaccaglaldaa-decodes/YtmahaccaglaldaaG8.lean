import Derived.Test.YtmahaccaglaldaaW10
namespace Go.Proofs.Ytmahaccaglaldaa
open Go.RowKit

set_option maxRecDepth 100000 in
set_option maxHeartbeats 4000000 in
theorem refE_b0 (p : Pkt) (hp : p.Wf)  (hl : p.likeB = false)
    (L : List (Int × Int)) (w : World) (hL : HoldsL w p L) :
    Calls Try.prog 7 #[p.val] w fun e w' => e = .returned (.tuple #[.string ⟨#[]⟩, .int .i64 1]) ∧ Below w.heap.size w w' := by
  have hpw := hp
  obtain ⟨ttl, kind, hops, unk, id, dest, dseq, frm, fseq, life, la, ln, lc, pay⟩ := p
  obtain ⟨_, _, _, _, _, _, i0, i1, d0, d1, s0, s1, f0, f1, fs0, fs1, l0, l1, hln, _⟩ := hp
  dsimp only at *
  go_enter Try.func7, Try.ntmps7
  go_wp2_with (go_at_call 18; refine (own_any ⟨ttl, kind, hops, unk, id, dest, dseq, frm, fseq, life, la, ln, lc, pay⟩ _).mono ?_; rintro e w1 ⟨rfl, hb1⟩; have hI1 := (InB.start0 ⟨ttl, kind, hops, unk, id, dest, dseq, frm, fseq, life, la, ln, lc, pay⟩ w).below hb1; obtain ⟨c0, c1, c2, c3, c4, c5, c6, c7, c8, c9, c10, c11, hs, hB⟩ := (show _ from hI1); dsimp only at c0 c1 c2 c3 c4 c5 c6 c7 c8 c9 c10 c11)
  clear c0 c1 c2 c3 c4 c5 c6 c7 c8 c9 c10 c11
  have hI2 := hI1.alloc (Pkt.box (Pkt.ownP ⟨ttl, kind, hops, unk, id, dest, dseq, frm, fseq, life, la, ln, lc, pay⟩))
  have hL2 := hL.below hI2.2.2.2.2.2.2.2.2.2.2.2.2.2
  clear hB hs hI1 hb1
  refine (alike_own ⟨ttl, kind, hops, unk, id, dest, dseq, frm, fseq, life, la, ln, lc, pay⟩ hpw L _ hL2).mono ?_
  rintro e w2 ⟨rfl, hb2⟩
  have hI := hI2.below hb2
  clear hI2 hL2 hb2
  obtain ⟨c0, c1, c2, c3, c4, c5, c6, c7, c8, c9, c10, c11, hs, hB⟩ := (show _ from hI)
  dsimp only at c0 c1 c2 c3 c4 c5 c6 c7 c8 c9 c10 c11
  go_wp2
  all_goals (go_ret2; exact ⟨rfl, hB⟩)

set_option maxRecDepth 100000 in
set_option maxHeartbeats 4000000 in
theorem refE_b1 (p : Pkt) (hp : p.Wf)  (hl : p.likeB = true) (ht : p.ttl < 1)
    (L : List (Int × Int)) (w : World) (hL : HoldsL w p L) :
    Calls Try.prog 7 #[p.val] w fun e w' => e = .returned (.tuple #[.string ⟨#[]⟩, .int .i64 1]) ∧ Below w.heap.size w w' := by
  have hpw := hp
  obtain ⟨ttl, kind, hops, unk, id, dest, dseq, frm, fseq, life, la, ln, lc, pay⟩ := p
  obtain ⟨_, _, _, _, _, _, i0, i1, d0, d1, s0, s1, f0, f1, fs0, fs1, l0, l1, hln, _⟩ := hp
  dsimp only at *
  go_enter Try.func7, Try.ntmps7
  go_wp2_with (go_at_call 18; refine (own_any ⟨ttl, kind, hops, unk, id, dest, dseq, frm, fseq, life, la, ln, lc, pay⟩ _).mono ?_; rintro e w1 ⟨rfl, hb1⟩; have hI1 := (InB.start0 ⟨ttl, kind, hops, unk, id, dest, dseq, frm, fseq, life, la, ln, lc, pay⟩ w).below hb1; obtain ⟨c0, c1, c2, c3, c4, c5, c6, c7, c8, c9, c10, c11, hs, hB⟩ := (show _ from hI1); dsimp only at c0 c1 c2 c3 c4 c5 c6 c7 c8 c9 c10 c11)
  clear c0 c1 c2 c3 c4 c5 c6 c7 c8 c9 c10 c11
  have hI2 := hI1.alloc (Pkt.box (Pkt.ownP ⟨ttl, kind, hops, unk, id, dest, dseq, frm, fseq, life, la, ln, lc, pay⟩))
  have hL2 := hL.below hI2.2.2.2.2.2.2.2.2.2.2.2.2.2
  clear hB hs hI1 hb1
  refine (alike_own ⟨ttl, kind, hops, unk, id, dest, dseq, frm, fseq, life, la, ln, lc, pay⟩ hpw L _ hL2).mono ?_
  rintro e w2 ⟨rfl, hb2⟩
  have hI := hI2.below hb2
  clear hI2 hL2 hb2
  obtain ⟨c0, c1, c2, c3, c4, c5, c6, c7, c8, c9, c10, c11, hs, hB⟩ := (show _ from hI)
  dsimp only at c0 c1 c2 c3 c4 c5 c6 c7 c8 c9 c10 c11
  go_wp2
  all_goals (go_ret2; exact ⟨rfl, hB⟩)

set_option maxRecDepth 100000 in
set_option maxHeartbeats 4000000 in
theorem refE_b2 (p : Pkt) (hp : p.Wf)  (hl : p.likeB = true) (ht0 : 1 ≤ p.ttl) (ht1 : 255 < p.ttl)
    (L : List (Int × Int)) (w : World) (hL : HoldsL w p L) :
    Calls Try.prog 7 #[p.val] w fun e w' => e = .returned (.tuple #[.string ⟨#[]⟩, .int .i64 1]) ∧ Below w.heap.size w w' := by
  have hpw := hp
  obtain ⟨ttl, kind, hops, unk, id, dest, dseq, frm, fseq, life, la, ln, lc, pay⟩ := p
  obtain ⟨_, _, _, _, _, _, i0, i1, d0, d1, s0, s1, f0, f1, fs0, fs1, l0, l1, hln, _⟩ := hp
  dsimp only at *
  go_enter Try.func7, Try.ntmps7
  go_wp2_with (go_at_call 18; refine (own_any ⟨ttl, kind, hops, unk, id, dest, dseq, frm, fseq, life, la, ln, lc, pay⟩ _).mono ?_; rintro e w1 ⟨rfl, hb1⟩; have hI1 := (InB.start0 ⟨ttl, kind, hops, unk, id, dest, dseq, frm, fseq, life, la, ln, lc, pay⟩ w).below hb1; obtain ⟨c0, c1, c2, c3, c4, c5, c6, c7, c8, c9, c10, c11, hs, hB⟩ := (show _ from hI1); dsimp only at c0 c1 c2 c3 c4 c5 c6 c7 c8 c9 c10 c11)
  clear c0 c1 c2 c3 c4 c5 c6 c7 c8 c9 c10 c11
  have hI2 := hI1.alloc (Pkt.box (Pkt.ownP ⟨ttl, kind, hops, unk, id, dest, dseq, frm, fseq, life, la, ln, lc, pay⟩))
  have hL2 := hL.below hI2.2.2.2.2.2.2.2.2.2.2.2.2.2
  clear hB hs hI1 hb1
  refine (alike_own ⟨ttl, kind, hops, unk, id, dest, dseq, frm, fseq, life, la, ln, lc, pay⟩ hpw L _ hL2).mono ?_
  rintro e w2 ⟨rfl, hb2⟩
  have hI := hI2.below hb2
  clear hI2 hL2 hb2
  obtain ⟨c0, c1, c2, c3, c4, c5, c6, c7, c8, c9, c10, c11, hs, hB⟩ := (show _ from hI)
  dsimp only at c0 c1 c2 c3 c4 c5 c6 c7 c8 c9 c10 c11
  go_wp2
  all_goals (go_ret2; exact ⟨rfl, hB⟩)


end Go.Proofs.Ytmahaccaglaldaa

namespace Go.Proofs.Ytmahaccaglaldaa
open Go.RowKit

set_option maxRecDepth 100000 in
set_option maxHeartbeats 4000000 in
theorem refE_b3 (p : Pkt) (hp : p.Wf)  (hl : p.likeB = true) (ht0 : 1 ≤ p.ttl) (ht1 : p.ttl ≤ 255) (hh : p.hops < 0)
    (L : List (Int × Int)) (w : World) (hL : HoldsL w p L) :
    Calls Try.prog 7 #[p.val] w fun e w' => e = .returned (.tuple #[.string ⟨#[]⟩, .int .i64 1]) ∧ Below w.heap.size w w' := by
  have hpw := hp
  obtain ⟨ttl, kind, hops, unk, id, dest, dseq, frm, fseq, life, la, ln, lc, pay⟩ := p
  obtain ⟨_, _, _, _, _, _, i0, i1, d0, d1, s0, s1, f0, f1, fs0, fs1, l0, l1, hln, _⟩ := hp
  dsimp only at *
  go_enter Try.func7, Try.ntmps7
  go_wp2_with (go_at_call 18; refine (own_any ⟨ttl, kind, hops, unk, id, dest, dseq, frm, fseq, life, la, ln, lc, pay⟩ _).mono ?_; rintro e w1 ⟨rfl, hb1⟩; have hI1 := (InB.start0 ⟨ttl, kind, hops, unk, id, dest, dseq, frm, fseq, life, la, ln, lc, pay⟩ w).below hb1; obtain ⟨c0, c1, c2, c3, c4, c5, c6, c7, c8, c9, c10, c11, hs, hB⟩ := (show _ from hI1); dsimp only at c0 c1 c2 c3 c4 c5 c6 c7 c8 c9 c10 c11)
  clear c0 c1 c2 c3 c4 c5 c6 c7 c8 c9 c10 c11
  have hI2 := hI1.alloc (Pkt.box (Pkt.ownP ⟨ttl, kind, hops, unk, id, dest, dseq, frm, fseq, life, la, ln, lc, pay⟩))
  have hL2 := hL.below hI2.2.2.2.2.2.2.2.2.2.2.2.2.2
  clear hB hs hI1 hb1
  refine (alike_own ⟨ttl, kind, hops, unk, id, dest, dseq, frm, fseq, life, la, ln, lc, pay⟩ hpw L _ hL2).mono ?_
  rintro e w2 ⟨rfl, hb2⟩
  have hI := hI2.below hb2
  clear hI2 hL2 hb2
  obtain ⟨c0, c1, c2, c3, c4, c5, c6, c7, c8, c9, c10, c11, hs, hB⟩ := (show _ from hI)
  dsimp only at c0 c1 c2 c3 c4 c5 c6 c7 c8 c9 c10 c11
  go_wp2
  all_goals (go_ret2; exact ⟨rfl, hB⟩)

set_option maxRecDepth 100000 in
set_option maxHeartbeats 4000000 in
theorem refE_b4 (p : Pkt) (hp : p.Wf)  (hl : p.likeB = true) (ht0 : 1 ≤ p.ttl) (ht1 : p.ttl ≤ 255) (hh0 : 0 ≤ p.hops) (hh1 : 255 < p.hops)
    (L : List (Int × Int)) (w : World) (hL : HoldsL w p L) :
    Calls Try.prog 7 #[p.val] w fun e w' => e = .returned (.tuple #[.string ⟨#[]⟩, .int .i64 1]) ∧ Below w.heap.size w w' := by
  have hpw := hp
  obtain ⟨ttl, kind, hops, unk, id, dest, dseq, frm, fseq, life, la, ln, lc, pay⟩ := p
  obtain ⟨_, _, _, _, _, _, i0, i1, d0, d1, s0, s1, f0, f1, fs0, fs1, l0, l1, hln, _⟩ := hp
  dsimp only at *
  go_enter Try.func7, Try.ntmps7
  go_wp2_with (go_at_call 18; refine (own_any ⟨ttl, kind, hops, unk, id, dest, dseq, frm, fseq, life, la, ln, lc, pay⟩ _).mono ?_; rintro e w1 ⟨rfl, hb1⟩; have hI1 := (InB.start0 ⟨ttl, kind, hops, unk, id, dest, dseq, frm, fseq, life, la, ln, lc, pay⟩ w).below hb1; obtain ⟨c0, c1, c2, c3, c4, c5, c6, c7, c8, c9, c10, c11, hs, hB⟩ := (show _ from hI1); dsimp only at c0 c1 c2 c3 c4 c5 c6 c7 c8 c9 c10 c11)
  clear c0 c1 c2 c3 c4 c5 c6 c7 c8 c9 c10 c11
  have hI2 := hI1.alloc (Pkt.box (Pkt.ownP ⟨ttl, kind, hops, unk, id, dest, dseq, frm, fseq, life, la, ln, lc, pay⟩))
  have hL2 := hL.below hI2.2.2.2.2.2.2.2.2.2.2.2.2.2
  clear hB hs hI1 hb1
  refine (alike_own ⟨ttl, kind, hops, unk, id, dest, dseq, frm, fseq, life, la, ln, lc, pay⟩ hpw L _ hL2).mono ?_
  rintro e w2 ⟨rfl, hb2⟩
  have hI := hI2.below hb2
  clear hI2 hL2 hb2
  obtain ⟨c0, c1, c2, c3, c4, c5, c6, c7, c8, c9, c10, c11, hs, hB⟩ := (show _ from hI)
  dsimp only at c0 c1 c2 c3 c4 c5 c6 c7 c8 c9 c10 c11
  go_wp2
  all_goals (go_ret2; exact ⟨rfl, hB⟩)

set_option maxRecDepth 100000 in
set_option maxHeartbeats 4000000 in
theorem refE_b5 (p : Pkt) (hp : p.Wf)  (hl : p.likeB = true) (ht0 : 1 ≤ p.ttl) (ht1 : p.ttl ≤ 255) (hh0 : 0 ≤ p.hops) (hh1 : p.hops ≤ 255) (hpay : 16 < p.pay.size)
    (L : List (Int × Int)) (w : World) (hL : HoldsL w p L) :
    Calls Try.prog 7 #[p.val] w fun e w' => e = .returned (.tuple #[.string ⟨#[]⟩, .int .i64 1]) ∧ Below w.heap.size w w' := by
  have hpw := hp
  obtain ⟨ttl, kind, hops, unk, id, dest, dseq, frm, fseq, life, la, ln, lc, pay⟩ := p
  obtain ⟨_, _, _, _, _, _, i0, i1, d0, d1, s0, s1, f0, f1, fs0, fs1, l0, l1, hln, _⟩ := hp
  dsimp only at *
  go_enter Try.func7, Try.ntmps7
  go_wp2_with (go_at_call 18; refine (own_any ⟨ttl, kind, hops, unk, id, dest, dseq, frm, fseq, life, la, ln, lc, pay⟩ _).mono ?_; rintro e w1 ⟨rfl, hb1⟩; have hI1 := (InB.start0 ⟨ttl, kind, hops, unk, id, dest, dseq, frm, fseq, life, la, ln, lc, pay⟩ w).below hb1; obtain ⟨c0, c1, c2, c3, c4, c5, c6, c7, c8, c9, c10, c11, hs, hB⟩ := (show _ from hI1); dsimp only at c0 c1 c2 c3 c4 c5 c6 c7 c8 c9 c10 c11)
  clear c0 c1 c2 c3 c4 c5 c6 c7 c8 c9 c10 c11
  have hI2 := hI1.alloc (Pkt.box (Pkt.ownP ⟨ttl, kind, hops, unk, id, dest, dseq, frm, fseq, life, la, ln, lc, pay⟩))
  have hL2 := hL.below hI2.2.2.2.2.2.2.2.2.2.2.2.2.2
  clear hB hs hI1 hb1
  refine (alike_own ⟨ttl, kind, hops, unk, id, dest, dseq, frm, fseq, life, la, ln, lc, pay⟩ hpw L _ hL2).mono ?_
  rintro e w2 ⟨rfl, hb2⟩
  have hI := hI2.below hb2
  clear hI2 hL2 hb2
  obtain ⟨c0, c1, c2, c3, c4, c5, c6, c7, c8, c9, c10, c11, hs, hB⟩ := (show _ from hI)
  dsimp only at c0 c1 c2 c3 c4 c5 c6 c7 c8 c9 c10 c11
  go_wp2
  all_goals (go_ret2; exact ⟨rfl, hB⟩)


end Go.Proofs.Ytmahaccaglaldaa

namespace Go.Proofs.Ytmahaccaglaldaa
open Go.RowKit

set_option maxRecDepth 100000 in
set_option maxHeartbeats 4000000 in
theorem refE_b6 (p : Pkt) (hp : p.Wf) (hk : p.kind = 3) (hl : p.likeB = true) (ht0 : 1 ≤ p.ttl) (ht1 : p.ttl ≤ 255) (hh0 : 0 ≤ p.hops) (hh1 : p.hops ≤ 255) (hpay : p.pay.size ≤ 16) (hn : p.ln < 1)
    (L : List (Int × Int)) (w : World) (hL : HoldsL w p L) :
    Calls Try.prog 7 #[p.val] w fun e w' => e = .returned (.tuple #[.string ⟨#[]⟩, .int .i64 1]) ∧ Below w.heap.size w w' := by
  have hpw := hp
  obtain ⟨ttl, kind, hops, unk, id, dest, dseq, frm, fseq, life, la, ln, lc, pay⟩ := p
  simp only at hk
  subst hk
  obtain ⟨_, _, _, _, _, _, i0, i1, d0, d1, s0, s1, f0, f1, fs0, fs1, l0, l1, hln, _⟩ := hp
  dsimp only at *
  go_enter Try.func7, Try.ntmps7
  go_wp2_with (go_at_call 18; refine (own_any ⟨ttl, 3, hops, unk, id, dest, dseq, frm, fseq, life, la, ln, lc, pay⟩ _).mono ?_; rintro e w1 ⟨rfl, hb1⟩; have hI1 := (InB.start0 ⟨ttl, 3, hops, unk, id, dest, dseq, frm, fseq, life, la, ln, lc, pay⟩ w).below hb1; obtain ⟨c0, c1, c2, c3, c4, c5, c6, c7, c8, c9, c10, c11, hs, hB⟩ := (show _ from hI1); dsimp only at c0 c1 c2 c3 c4 c5 c6 c7 c8 c9 c10 c11)
  clear c0 c1 c2 c3 c4 c5 c6 c7 c8 c9 c10 c11
  have hI2 := hI1.alloc (Pkt.box (Pkt.ownP ⟨ttl, 3, hops, unk, id, dest, dseq, frm, fseq, life, la, ln, lc, pay⟩))
  have hL2 := hL.below hI2.2.2.2.2.2.2.2.2.2.2.2.2.2
  clear hB hs hI1 hb1
  refine (alike_own ⟨ttl, 3, hops, unk, id, dest, dseq, frm, fseq, life, la, ln, lc, pay⟩ hpw L _ hL2).mono ?_
  rintro e w2 ⟨rfl, hb2⟩
  have hI := hI2.below hb2
  clear hI2 hL2 hb2
  obtain ⟨c0, c1, c2, c3, c4, c5, c6, c7, c8, c9, c10, c11, hs, hB⟩ := (show _ from hI)
  dsimp only at c0 c1 c2 c3 c4 c5 c6 c7 c8 c9 c10 c11
  have hsz := strOfNums_size
  go_wp2_with fail
  clear c0 c1 c2 c3 c4 c5 c6 c7 c8 c9 c10 c11 hs hB
  go_region_held3 (InB ⟨ttl, 3, hops, unk, id, dest, dseq, frm, fseq, life, la, ln, lc, pay⟩ w) (first | exact InB.drew' (by assumption) | assumption | exact InB.below (by assumption) (by assumption)) (first
    | (go_at_call 20; refine (byteOf_any _ _ (by omega) (by omega)).mono ?_; rintro e w3 ⟨rfl, hb3⟩)
    | (go_at_call 21; refine (four_any _ _ (by omega) (by omega)).mono ?_; rintro e w4 ⟨rfl, hb4⟩))
  obtain ⟨c0, c1, c2, c3, c4, c5, c6, c7, c8, c9, c10, c11, hs, hB⟩ : InB ⟨ttl, 3, hops, unk, id, dest, dseq, frm, fseq, life, la, ln, lc, pay⟩ w _ := by assumption
  dsimp only at c0 c1 c2 c3 c4 c5 c6 c7 c8 c9 c10 c11
  go_wp2
  all_goals (go_ret2; exact ⟨rfl, hB⟩)

set_option maxRecDepth 100000 in
set_option maxHeartbeats 4000000 in
theorem refE_b7 (p : Pkt) (hp : p.Wf) (hk : p.kind = 3) (hl : p.likeB = true) (ht0 : 1 ≤ p.ttl) (ht1 : p.ttl ≤ 255) (hh0 : 0 ≤ p.hops) (hh1 : p.hops ≤ 255) (hpay : p.pay.size ≤ 16) (hn0 : 1 ≤ p.ln) (hn : 8 < p.ln)
    (L : List (Int × Int)) (w : World) (hL : HoldsL w p L) :
    Calls Try.prog 7 #[p.val] w fun e w' => e = .returned (.tuple #[.string ⟨#[]⟩, .int .i64 1]) ∧ Below w.heap.size w w' := by
  have hpw := hp
  obtain ⟨ttl, kind, hops, unk, id, dest, dseq, frm, fseq, life, la, ln, lc, pay⟩ := p
  simp only at hk
  subst hk
  obtain ⟨_, _, _, _, _, _, i0, i1, d0, d1, s0, s1, f0, f1, fs0, fs1, l0, l1, hln, _⟩ := hp
  dsimp only at *
  go_enter Try.func7, Try.ntmps7
  go_wp2_with (go_at_call 18; refine (own_any ⟨ttl, 3, hops, unk, id, dest, dseq, frm, fseq, life, la, ln, lc, pay⟩ _).mono ?_; rintro e w1 ⟨rfl, hb1⟩; have hI1 := (InB.start0 ⟨ttl, 3, hops, unk, id, dest, dseq, frm, fseq, life, la, ln, lc, pay⟩ w).below hb1; obtain ⟨c0, c1, c2, c3, c4, c5, c6, c7, c8, c9, c10, c11, hs, hB⟩ := (show _ from hI1); dsimp only at c0 c1 c2 c3 c4 c5 c6 c7 c8 c9 c10 c11)
  clear c0 c1 c2 c3 c4 c5 c6 c7 c8 c9 c10 c11
  have hI2 := hI1.alloc (Pkt.box (Pkt.ownP ⟨ttl, 3, hops, unk, id, dest, dseq, frm, fseq, life, la, ln, lc, pay⟩))
  have hL2 := hL.below hI2.2.2.2.2.2.2.2.2.2.2.2.2.2
  clear hB hs hI1 hb1
  refine (alike_own ⟨ttl, 3, hops, unk, id, dest, dseq, frm, fseq, life, la, ln, lc, pay⟩ hpw L _ hL2).mono ?_
  rintro e w2 ⟨rfl, hb2⟩
  have hI := hI2.below hb2
  clear hI2 hL2 hb2
  obtain ⟨c0, c1, c2, c3, c4, c5, c6, c7, c8, c9, c10, c11, hs, hB⟩ := (show _ from hI)
  dsimp only at c0 c1 c2 c3 c4 c5 c6 c7 c8 c9 c10 c11
  have hsz := strOfNums_size
  go_wp2_with fail
  clear c0 c1 c2 c3 c4 c5 c6 c7 c8 c9 c10 c11 hs hB
  go_region_held3 (InB ⟨ttl, 3, hops, unk, id, dest, dseq, frm, fseq, life, la, ln, lc, pay⟩ w) (first | exact InB.drew' (by assumption) | assumption | exact InB.below (by assumption) (by assumption)) (first
    | (go_at_call 20; refine (byteOf_any _ _ (by omega) (by omega)).mono ?_; rintro e w3 ⟨rfl, hb3⟩)
    | (go_at_call 21; refine (four_any _ _ (by omega) (by omega)).mono ?_; rintro e w4 ⟨rfl, hb4⟩))
  obtain ⟨c0, c1, c2, c3, c4, c5, c6, c7, c8, c9, c10, c11, hs, hB⟩ : InB ⟨ttl, 3, hops, unk, id, dest, dseq, frm, fseq, life, la, ln, lc, pay⟩ w _ := by assumption
  dsimp only at c0 c1 c2 c3 c4 c5 c6 c7 c8 c9 c10 c11
  go_wp2
  all_goals (go_ret2; exact ⟨rfl, hB⟩)


end Go.Proofs.Ytmahaccaglaldaa

namespace Go.Proofs.Ytmahaccaglaldaa
open Go.RowKit

set_option maxHeartbeats 400000 in
theorem byteOf_wrap (n : Int) (w : World) :
    Calls Try.prog 20 #[.int .i64 n] w fun e w' => e = .returned (.string (strOfNums [n % 256])) ∧ Below w.heap.size w w' := by
  have hcv := conv_new w [n % 256]
  simp only [List.length_cons, List.length_nil, List.map_cons, List.map_nil, Nat.zero_add] at hcv
  go_enter Try.func20, Try.ntmps20
  go_wp2
  go_ret
  exact ⟨rfl, (Below.refl _ _).alloc (Nat.le_refl _) _⟩

set_option maxRecDepth 100000 in
set_option maxHeartbeats 4000000 in
theorem refE_b8 (p : Pkt) (hp : p.Wf) (k1 : (p.kind == 1) = false) (k2 : (p.kind == 2) = false) (k3 : (p.kind == 3) = false) (k9 : (p.kind == 9) = false) (hl : p.likeB = true) (ht0 : 1 ≤ p.ttl) (ht1 : p.ttl ≤ 255) (hh0 : 0 ≤ p.hops) (hh1 : p.hops ≤ 255) (hpay : p.pay.size ≤ 16)
    (L : List (Int × Int)) (w : World) (hL : HoldsL w p L) :
    Calls Try.prog 7 #[p.val] w fun e w' => e = .returned (.tuple #[.string ⟨#[]⟩, .int .i64 1]) ∧ Below w.heap.size w w' := by
  have hpw := hp
  obtain ⟨ttl, kind, hops, unk, id, dest, dseq, frm, fseq, life, la, ln, lc, pay⟩ := p
  obtain ⟨_, _, _, _, _, _, i0, i1, d0, d1, s0, s1, f0, f1, fs0, fs1, l0, l1, hln, _⟩ := hp
  dsimp only at *
  go_enter Try.func7, Try.ntmps7
  go_wp2_with (go_at_call 18; refine (own_any ⟨ttl, kind, hops, unk, id, dest, dseq, frm, fseq, life, la, ln, lc, pay⟩ _).mono ?_; rintro e w1 ⟨rfl, hb1⟩; have hI1 := (InB.start0 ⟨ttl, kind, hops, unk, id, dest, dseq, frm, fseq, life, la, ln, lc, pay⟩ w).below hb1; obtain ⟨c0, c1, c2, c3, c4, c5, c6, c7, c8, c9, c10, c11, hs, hB⟩ := (show _ from hI1); dsimp only at c0 c1 c2 c3 c4 c5 c6 c7 c8 c9 c10 c11)
  clear c0 c1 c2 c3 c4 c5 c6 c7 c8 c9 c10 c11
  have hI2 := hI1.alloc (Pkt.box (Pkt.ownP ⟨ttl, kind, hops, unk, id, dest, dseq, frm, fseq, life, la, ln, lc, pay⟩))
  have hL2 := hL.below hI2.2.2.2.2.2.2.2.2.2.2.2.2.2
  clear hB hs hI1 hb1
  refine (alike_own ⟨ttl, kind, hops, unk, id, dest, dseq, frm, fseq, life, la, ln, lc, pay⟩ hpw L _ hL2).mono ?_
  rintro e w2 ⟨rfl, hb2⟩
  have hI := hI2.below hb2
  clear hI2 hL2 hb2
  obtain ⟨c0, c1, c2, c3, c4, c5, c6, c7, c8, c9, c10, c11, hs, hB⟩ := (show _ from hI)
  dsimp only at c0 c1 c2 c3 c4 c5 c6 c7 c8 c9 c10 c11
  have hsz := strOfNums_size
  go_wp2_with fail
  clear c0 c1 c2 c3 c4 c5 c6 c7 c8 c9 c10 c11 hs hB
  go_region_held3 (InB ⟨ttl, kind, hops, unk, id, dest, dseq, frm, fseq, life, la, ln, lc, pay⟩ w) (first | exact InB.drew' (by assumption) | assumption | exact InB.below (by assumption) (by assumption)) (first
    | (go_at_call 20; refine (byteOf_wrap _ _).mono ?_; rintro e w3 ⟨rfl, hb3⟩)
    | (go_at_call 21; refine (four_any _ _ (by omega) (by omega)).mono ?_; rintro e w4 ⟨rfl, hb4⟩))
  obtain ⟨c0, c1, c2, c3, c4, c5, c6, c7, c8, c9, c10, c11, hs, hB⟩ : InB ⟨ttl, kind, hops, unk, id, dest, dseq, frm, fseq, life, la, ln, lc, pay⟩ w _ := by assumption
  dsimp only at c0 c1 c2 c3 c4 c5 c6 c7 c8 c9 c10 c11
  go_wp2
  all_goals (go_ret2; exact ⟨rfl, hB⟩)


end Go.Proofs.Ytmahaccaglaldaa
