import Derived.Test.YtppbdalkfkemgaaW2
import Derived.Deep.QuietTactic
import Derived.BigQuiet
namespace Go.Proofs.Ytppbdalkfkemgaa
open Go.RowKit

/-- The packet's box, as it lies behind the world w. -/
@[reducible] def InB (p : Pkt) (w W : World) : Prop :=
  W.cell? ⟨w.heap.size, 0, none⟩ = some (.int .i64 p.ttl) ∧ W.cell? ⟨w.heap.size, 1, none⟩ = some (.int .i64 p.kind) ∧ W.cell? ⟨w.heap.size, 2, none⟩ = some (.int .i64 p.hops) ∧
  W.cell? ⟨w.heap.size, 3, none⟩ = some (.bool p.unk) ∧ W.cell? ⟨w.heap.size, 4, none⟩ = some (.int .u32 p.id) ∧ W.cell? ⟨w.heap.size, 5, none⟩ = some (.int .u32 p.dest) ∧
  W.cell? ⟨w.heap.size, 6, none⟩ = some (.int .u32 p.dseq) ∧ W.cell? ⟨w.heap.size, 7, none⟩ = some (.int .u32 p.frm) ∧ W.cell? ⟨w.heap.size, 8, none⟩ = some (.int .u32 p.fseq) ∧
  W.cell? ⟨w.heap.size, 9, none⟩ = some (.int .u32 p.life) ∧ W.cell? ⟨w.heap.size, 10, none⟩ = some (.slice p.la p.ln p.lc) ∧ W.cell? ⟨w.heap.size, 11, none⟩ = some (.string p.pay) ∧
  w.heap.size < W.heap.size ∧ Below w.heap.size w W

theorem InB.start (p : Pkt) (w : World) : InB p w (w.alloc p.box).drew :=
  ⟨World.cell?_alloc_new w _ _ _, World.cell?_alloc_new w _ _ _, World.cell?_alloc_new w _ _ _, World.cell?_alloc_new w _ _ _, World.cell?_alloc_new w _ _ _, World.cell?_alloc_new w _ _ _,
   World.cell?_alloc_new w _ _ _, World.cell?_alloc_new w _ _ _, World.cell?_alloc_new w _ _ _, World.cell?_alloc_new w _ _ _, World.cell?_alloc_new w _ _ _, World.cell?_alloc_new w _ _ _,
   by simp, ((Below.refl _ _).alloc (Nat.le_refl _) _).drew⟩

theorem InB.below {p : Pkt} {w W W1 : World} (h : InB p w W) (hb : Below W.heap.size W W1) : InB p w W1 := by
  obtain ⟨c0, c1, c2, c3, c4, c5, c6, c7, c8, c9, c10, c11, hs, hB⟩ := h
  have k : ∀ i, W1.cell? ⟨w.heap.size, i, none⟩ = W.cell? ⟨w.heap.size, i, none⟩ := fun i => hb.cell (p := ⟨w.heap.size, i, none⟩) hs
  exact ⟨(k _).trans c0, (k _).trans c1, (k _).trans c2, (k _).trans c3, (k _).trans c4, (k _).trans c5, (k _).trans c6, (k _).trans c7, (k _).trans c8, (k _).trans c9, (k _).trans c10, (k _).trans c11,
    Nat.lt_of_lt_of_le hs hb.size, hB.trans (hb.mono (Nat.le_of_lt hs))⟩

theorem below_then {B : Nat} {w w1 w2 : World} (h : Below B w w1) (hB : B ≤ w1.heap.size) (h2 : Below w1.heap.size w1 w2) : Below B w w2 := h.trans (h2.mono hB)
theorem below_then2 {B : Nat} {w w1 w2 w3 : World} (h : Below B w w1) (hs : B < w1.heap.size) (h2 : Below w1.heap.size w1 w2) (h3 : Below w2.heap.size w2 w3) : Below B w w3 :=
  (h.trans (h2.mono (Nat.le_of_lt hs))).trans (h3.mono (Nat.le_trans (Nat.le_of_lt hs) h2.size))

def Pkt.goodB (p : Pkt) : Bool :=
  decide (1 ≤ p.ttl ∧ p.ttl ≤ 255) && fitsB p.kind p.cnt && !(p.unk && p.dseq != 0) && p.forP.blankB

theorem Pkt.Wf.forP {p : Pkt} (h : p.Wf) : p.forP.Wf := by
  obtain ⟨h1, h2, h3, h4, h5, h6, h7, h8, h9, h10, h11, h12, h13, h14, h15, h16, h17, h18, h19, h20⟩ := h
  unfold Pkt.forP
  split
  · constructor <;> (dsimp only; omega)
  split
  · constructor <;> (dsimp only; omega)
  split
  · constructor <;> (dsimp only; omega)
  split
  · constructor <;> (first | (dsimp only; omega) | (simp [ByteArray.size]))
  · constructor <;> assumption

set_option maxHeartbeats 1000000 in
theorem isPacket_lo (p : Pkt) (w : World) (ht : p.ttl < 1) :
    Calls Try.prog 53 #[p.val] w fun e w' => e = .returned (.bool false) ∧ Below w.heap.size w w' := by
  have d1 : decide (p.ttl < 1) = true := by simpa using ht
  go_enter Try.func53, Try.ntmps53
  go_wp2
  go_quiet (fail)
  all_goals go_wp2
  all_goals (go_ret; go_light; refine ⟨rfl, below_drewN ?_ _⟩; go_grown)

set_option maxHeartbeats 1000000 in
theorem isPacket_hi (p : Pkt) (w : World) (ht : ¬ p.ttl < 1) (ht2 : 255 < p.ttl) :
    Calls Try.prog 53 #[p.val] w fun e w' => e = .returned (.bool false) ∧ Below w.heap.size w w' := by
  have d1 : decide (p.ttl < 1) = false := by simpa using ht
  have d2 : decide (255 < p.ttl) = true := by simpa using ht2
  go_enter Try.func53, Try.ntmps53
  go_wp2
  go_quiet (fail)
  all_goals go_wp2
  all_goals (go_ret; go_light; refine ⟨rfl, below_drewN ?_ _⟩; go_grown)

set_option maxHeartbeats 1000000 in
theorem isPacket_mid (p : Pkt) (hp : p.Wf) (w : World) (ht : ¬ p.ttl < 1) (ht2 : ¬ 255 < p.ttl) :
    Calls Try.prog 53 #[p.val] w fun e w' => e = .returned (.bool (fitsB p.kind p.cnt && !(p.unk && p.dseq != 0) && p.forP.blankB)) ∧ Below w.heap.size w w' := by
  have d1 : decide (p.ttl < 1) = false := by simpa using ht
  have d2 : decide (255 < p.ttl) = false := by simpa using ht2
  go_enter Try.func53, Try.ntmps53
  go_wp2
  go_region_held3 (InB p w) (first | exact InB.start p w | assumption | exact InB.below (by assumption) (by assumption)) (first
    | (go_at_call 55; refine (count_any p _).mono ?_; rintro e w1 ⟨rfl, hb1⟩)
    | (go_at_call 90; refine (fits_any _ _ _).mono ?_; rintro e w1 ⟨rfl, rfl⟩))
  obtain ⟨c0, c1, c2, c3, c4, c5, c6, c7, c8, c9, c10, c11, hs, hB⟩ : InB p w _ := by assumption
  clear hb1
  have hf := hp.forP
  have hz : p.forP.Wf := hf
  obtain ⟨ttl, kind, hops, unk, id, dest, dseq, frm, fseq, life, la, ln, lc, pay⟩ := p
  cases unk
  all_goals (try dsimp only at c0 c1 c2 c3 c4 c5 c6 c7 c8 c9 c10 c11)
  · go_wp2_with (first
      | (go_at_call 92; refine (foreign_any ⟨ttl, kind, hops, false, id, dest, dseq, frm, fseq, life, la, ln, lc, pay⟩ _).mono ?_; rintro e w2 ⟨rfl, hb2⟩)
      | (go_at_call 91; refine (isBlank_any _ hz _).mono ?_; rintro e w3 ⟨rfl, hb3⟩))
    all_goals (go_ret; go_light; refine ⟨ret_bool ?_, ?_⟩)
    all_goals first | (simp_all; done) | exact hB | exact below_then2 hB hs hb2 hb3
  · go_wp2_with (first
      | (go_at_call 92; refine (foreign_any ⟨ttl, kind, hops, true, id, dest, dseq, frm, fseq, life, la, ln, lc, pay⟩ _).mono ?_; rintro e w2 ⟨rfl, hb2⟩)
      | (go_at_call 91; refine (isBlank_any _ hz _).mono ?_; rintro e w3 ⟨rfl, hb3⟩))
    all_goals (go_ret; go_light; refine ⟨ret_bool ?_, ?_⟩)
    all_goals first | (simp_all; done) | exact hB | exact below_then2 hB hs hb2 hb3

theorem isPacket_any (p : Pkt) (hp : p.Wf) (w : World) :
    Calls Try.prog 53 #[p.val] w fun e w' => e = .returned (.bool p.goodB) ∧ Below w.heap.size w w' := by
  by_cases h1 : p.ttl < 1
  · have : p.goodB = false := by
      unfold Pkt.goodB
      rw [decide_eq_false (by omega)]
      simp
    rw [this]
    exact isPacket_lo p w h1
  by_cases h2 : 255 < p.ttl
  · have : p.goodB = false := by
      unfold Pkt.goodB
      rw [decide_eq_false (by omega)]
      simp
    rw [this]
    exact isPacket_hi p w h1 h2
  · have : p.goodB = (fitsB p.kind p.cnt && !(p.unk && p.dseq != 0) && p.forP.blankB) := by
      unfold Pkt.goodB
      rw [decide_eq_true (by omega)]
      simp
    rw [this]
    exact isPacket_mid p hp w h1 h2

end Go.Proofs.Ytppbdalkfkemgaa
