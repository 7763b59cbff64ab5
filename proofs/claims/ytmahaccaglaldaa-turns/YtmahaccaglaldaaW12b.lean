import Derived.Test.YtmahaccaglaldaaW10
namespace Go.Proofs.Ytmahaccaglaldaa
open Go.RowKit

set_option maxRecDepth 100000 in
set_option maxHeartbeats 4000000 in
theorem refE_b3 (p : Pkt) (hp : p.Wf)  (hl : p.likeB = true) (ht0 : 1 ≤ p.ttl) (ht1 : p.ttl ≤ 255) (hh : p.hops < 0)
    (L : List (Int × Int)) (w : World) (hL : HoldsL w p L) :
    Calls Try.prog 7 #[p.val] w fun e w' => e = .returned (.tuple #[.string ⟨#[]⟩, .int .i64 1]) ∧ Below w.heap.size w w' := by
  have hpw := hp
  obtain ⟨ttl, kind, hops, unk, id, dest, dseq, frm, fseq, life, la, ln, lc, pay⟩ := p
  obtain ⟨_, _, _, _, _, _, i0, i1, d0, d1, s0, s1, f0, f1, fs0, fs1, l0, l1, hln, _⟩ := hp
  dsimp only at *
  go_enter Try.func7, Try.ntmps7
  go_wp2_with (go_at_call 18; refine (own_any ⟨ttl, kind, hops, unk, id, dest, dseq, frm, fseq, life, la, ln, lc, pay⟩ _).mono ?_; rintro e w1 ⟨rfl, hb1⟩; have hI1 := (InB.start0 ⟨ttl, kind, hops, unk, id, dest, dseq, frm, fseq, life, la, ln, lc, pay⟩ w).below hb1; obtain ⟨c0, c1, c2, c3, c4, c5, c6, c7, c8, c9, c10, c11, hs, hB⟩ := (show _ from hI1); dsimp only at c0 c1 c2 c3 c4 c5 c6 c7 c8 c9 c10 c11)
  clear c0 c1 c2 c3 c4 c5 c6 c7 c8 c9 c10 c11
  have hI2 := hI1.alloc (Pkt.box (Pkt.ownP ⟨ttl, kind, hops, unk, id, dest, dseq, frm, fseq, life, la, ln, lc, pay⟩))
  have hL2 := hL.below hI2.2.2.2.2.2.2.2.2.2.2.2.2.2
  clear hB hs hI1 hb1
  refine (alike_own ⟨ttl, kind, hops, unk, id, dest, dseq, frm, fseq, life, la, ln, lc, pay⟩ hpw L _ hL2).mono ?_
  rintro e w2 ⟨rfl, hb2⟩
  have hI := hI2.below hb2
  clear hI2 hL2 hb2
  obtain ⟨c0, c1, c2, c3, c4, c5, c6, c7, c8, c9, c10, c11, hs, hB⟩ := (show _ from hI)
  dsimp only at c0 c1 c2 c3 c4 c5 c6 c7 c8 c9 c10 c11
  go_wp2
  all_goals (go_ret2; exact ⟨rfl, hB⟩)

set_option maxRecDepth 100000 in
set_option maxHeartbeats 4000000 in
theorem refE_b4 (p : Pkt) (hp : p.Wf)  (hl : p.likeB = true) (ht0 : 1 ≤ p.ttl) (ht1 : p.ttl ≤ 255) (hh0 : 0 ≤ p.hops) (hh1 : 255 < p.hops)
    (L : List (Int × Int)) (w : World) (hL : HoldsL w p L) :
    Calls Try.prog 7 #[p.val] w fun e w' => e = .returned (.tuple #[.string ⟨#[]⟩, .int .i64 1]) ∧ Below w.heap.size w w' := by
  have hpw := hp
  obtain ⟨ttl, kind, hops, unk, id, dest, dseq, frm, fseq, life, la, ln, lc, pay⟩ := p
  obtain ⟨_, _, _, _, _, _, i0, i1, d0, d1, s0, s1, f0, f1, fs0, fs1, l0, l1, hln, _⟩ := hp
  dsimp only at *
  go_enter Try.func7, Try.ntmps7
  go_wp2_with (go_at_call 18; refine (own_any ⟨ttl, kind, hops, unk, id, dest, dseq, frm, fseq, life, la, ln, lc, pay⟩ _).mono ?_; rintro e w1 ⟨rfl, hb1⟩; have hI1 := (InB.start0 ⟨ttl, kind, hops, unk, id, dest, dseq, frm, fseq, life, la, ln, lc, pay⟩ w).below hb1; obtain ⟨c0, c1, c2, c3, c4, c5, c6, c7, c8, c9, c10, c11, hs, hB⟩ := (show _ from hI1); dsimp only at c0 c1 c2 c3 c4 c5 c6 c7 c8 c9 c10 c11)
  clear c0 c1 c2 c3 c4 c5 c6 c7 c8 c9 c10 c11
  have hI2 := hI1.alloc (Pkt.box (Pkt.ownP ⟨ttl, kind, hops, unk, id, dest, dseq, frm, fseq, life, la, ln, lc, pay⟩))
  have hL2 := hL.below hI2.2.2.2.2.2.2.2.2.2.2.2.2.2
  clear hB hs hI1 hb1
  refine (alike_own ⟨ttl, kind, hops, unk, id, dest, dseq, frm, fseq, life, la, ln, lc, pay⟩ hpw L _ hL2).mono ?_
  rintro e w2 ⟨rfl, hb2⟩
  have hI := hI2.below hb2
  clear hI2 hL2 hb2
  obtain ⟨c0, c1, c2, c3, c4, c5, c6, c7, c8, c9, c10, c11, hs, hB⟩ := (show _ from hI)
  dsimp only at c0 c1 c2 c3 c4 c5 c6 c7 c8 c9 c10 c11
  go_wp2
  all_goals (go_ret2; exact ⟨rfl, hB⟩)

set_option maxRecDepth 100000 in
set_option maxHeartbeats 4000000 in
theorem refE_b5 (p : Pkt) (hp : p.Wf)  (hl : p.likeB = true) (ht0 : 1 ≤ p.ttl) (ht1 : p.ttl ≤ 255) (hh0 : 0 ≤ p.hops) (hh1 : p.hops ≤ 255) (hpay : 16 < p.pay.size)
    (L : List (Int × Int)) (w : World) (hL : HoldsL w p L) :
    Calls Try.prog 7 #[p.val] w fun e w' => e = .returned (.tuple #[.string ⟨#[]⟩, .int .i64 1]) ∧ Below w.heap.size w w' := by
  have hpw := hp
  obtain ⟨ttl, kind, hops, unk, id, dest, dseq, frm, fseq, life, la, ln, lc, pay⟩ := p
  obtain ⟨_, _, _, _, _, _, i0, i1, d0, d1, s0, s1, f0, f1, fs0, fs1, l0, l1, hln, _⟩ := hp
  dsimp only at *
  go_enter Try.func7, Try.ntmps7
  go_wp2_with (go_at_call 18; refine (own_any ⟨ttl, kind, hops, unk, id, dest, dseq, frm, fseq, life, la, ln, lc, pay⟩ _).mono ?_; rintro e w1 ⟨rfl, hb1⟩; have hI1 := (InB.start0 ⟨ttl, kind, hops, unk, id, dest, dseq, frm, fseq, life, la, ln, lc, pay⟩ w).below hb1; obtain ⟨c0, c1, c2, c3, c4, c5, c6, c7, c8, c9, c10, c11, hs, hB⟩ := (show _ from hI1); dsimp only at c0 c1 c2 c3 c4 c5 c6 c7 c8 c9 c10 c11)
  clear c0 c1 c2 c3 c4 c5 c6 c7 c8 c9 c10 c11
  have hI2 := hI1.alloc (Pkt.box (Pkt.ownP ⟨ttl, kind, hops, unk, id, dest, dseq, frm, fseq, life, la, ln, lc, pay⟩))
  have hL2 := hL.below hI2.2.2.2.2.2.2.2.2.2.2.2.2.2
  clear hB hs hI1 hb1
  refine (alike_own ⟨ttl, kind, hops, unk, id, dest, dseq, frm, fseq, life, la, ln, lc, pay⟩ hpw L _ hL2).mono ?_
  rintro e w2 ⟨rfl, hb2⟩
  have hI := hI2.below hb2
  clear hI2 hL2 hb2
  obtain ⟨c0, c1, c2, c3, c4, c5, c6, c7, c8, c9, c10, c11, hs, hB⟩ := (show _ from hI)
  dsimp only at c0 c1 c2 c3 c4 c5 c6 c7 c8 c9 c10 c11
  go_wp2
  all_goals (go_ret2; exact ⟨rfl, hB⟩)


end Go.Proofs.Ytmahaccaglaldaa
