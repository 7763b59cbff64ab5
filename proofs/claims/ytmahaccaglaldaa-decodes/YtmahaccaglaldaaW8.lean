import Derived.Test.YtmahaccaglaldaaW7
import Derived.Deep.QuietTactic
import Derived.BigQuiet
namespace Go.Proofs.Ytmahaccaglaldaa
open Go.RowKit

def alikeB (p q : Pkt) : Bool :=
  decide (p.ttl = q.ttl ∧ p.kind = q.kind ∧ p.hops = q.hops ∧ p.unk = q.unk ∧ p.id = q.id ∧ p.dest = q.dest ∧ p.dseq = q.dseq ∧ p.frm = q.frm ∧ p.fseq = q.fseq ∧ p.life = q.life ∧ p.pay = q.pay)

set_option maxHeartbeats 1000000 in
theorem alike_ne (p q : Pkt) (h : ((p.ln : Int) != (q.ln : Int)) = true) (w : World) :
    Calls Try.prog 19 #[p.val, q.val] w fun e w' => e = .returned (.bool false) ∧ Below w.heap.size w w' := by
  go_enter Try.func19, Try.ntmps19
  go_wp2
  all_goals (go_ret; refine ⟨rfl, ?_⟩; go_grown)

/-- A packet's cells in a block. -/
@[reducible] def InC (p : Pkt) (b : Nat) (W : World) : Prop :=
  W.cell? ⟨b, 0, none⟩ = some (.int .i64 p.ttl) ∧ W.cell? ⟨b, 1, none⟩ = some (.int .i64 p.kind) ∧ W.cell? ⟨b, 2, none⟩ = some (.int .i64 p.hops) ∧
  W.cell? ⟨b, 3, none⟩ = some (.bool p.unk) ∧ W.cell? ⟨b, 4, none⟩ = some (.int .u32 p.id) ∧ W.cell? ⟨b, 5, none⟩ = some (.int .u32 p.dest) ∧
  W.cell? ⟨b, 6, none⟩ = some (.int .u32 p.dseq) ∧ W.cell? ⟨b, 7, none⟩ = some (.int .u32 p.frm) ∧ W.cell? ⟨b, 8, none⟩ = some (.int .u32 p.fseq) ∧
  W.cell? ⟨b, 9, none⟩ = some (.int .u32 p.life) ∧ W.cell? ⟨b, 10, none⟩ = some (.slice p.la p.ln p.lc) ∧ W.cell? ⟨b, 11, none⟩ = some (.string p.pay)

theorem InC.new (p : Pkt) (w : World) : InC p w.heap.size (w.alloc p.box) :=
  ⟨World.cell?_alloc_new w _ _ _, World.cell?_alloc_new w _ _ _, World.cell?_alloc_new w _ _ _, World.cell?_alloc_new w _ _ _, World.cell?_alloc_new w _ _ _, World.cell?_alloc_new w _ _ _,
   World.cell?_alloc_new w _ _ _, World.cell?_alloc_new w _ _ _, World.cell?_alloc_new w _ _ _, World.cell?_alloc_new w _ _ _, World.cell?_alloc_new w _ _ _, World.cell?_alloc_new w _ _ _⟩

theorem InC.below {p : Pkt} {b B : Nat} {W W1 : World} (h : InC p b W) (hb : Below B W W1) (hlt : b < B) : InC p b W1 := by
  obtain ⟨c0, c1, c2, c3, c4, c5, c6, c7, c8, c9, c10, c11⟩ := h
  have k : ∀ i, W1.cell? ⟨b, i, none⟩ = W.cell? ⟨b, i, none⟩ := fun i => hb.cell (p := ⟨b, i, none⟩) hlt
  exact ⟨(k _).trans c0, (k _).trans c1, (k _).trans c2, (k _).trans c3, (k _).trans c4, (k _).trans c5, (k _).trans c6, (k _).trans c7, (k _).trans c8, (k _).trans c9, (k _).trans c10, (k _).trans c11⟩

/-- What alike's loop holds on to. -/
structure AlInv (p q : Pkt) (w wr : World) : Prop where
  a : InC p w.heap.size wr
  b : InC q (w.heap.size + 1) wr
  below : Below w.heap.size w wr

theorem AlInv.start (p q : Pkt) (w : World) : AlInv p q w ((w.alloc p.box).alloc q.box) := by
  refine ⟨(InC.new p w).below (B := w.heap.size + 1) ((Below.refl _ _).alloc (by simp) _) (by omega), ?_, ((Below.refl _ _).alloc (Nat.le_refl _) _).alloc (by simp) _⟩
  have h := InC.new q (w.alloc p.box)
  rw [World.size_alloc] at h
  exact h
theorem AlInv.drewN {p q : Pkt} {w wr : World} (h : AlInv p q w wr) (n : Nat) : AlInv p q w (wr.drewN n) := ⟨h.a, h.b, below_drewN h.below n⟩

end Go.Proofs.Ytmahaccaglaldaa
