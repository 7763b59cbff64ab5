import Derived.Test.YtmahaccaglaldaaG1
import Derived.Test.YtmahaccaglaldaaW8a
import Derived.Test.YtmahaccaglaldaaW8b
import Derived.Test.YtmahaccaglaldaaW8c
import Derived.Test.YtmahaccaglaldaaW8d
import Derived.Test.YtmahaccaglaldaaW8e
import Derived.Test.YtmahaccaglaldaaW8f
namespace Go.Proofs.Ytmahaccaglaldaa
open Go.RowKit

theorem bytes_beq (a b : ByteArray) : (a.toList == b.toList) = decide (a = b) := by
  rw [Bool.eq_iff_iff, beq_iff_eq, decide_eq_true_iff]
  constructor
  · intro h
    rw [ByteArray.toList_eq, ByteArray.toList_eq] at h
    apply ByteArray.ext
    exact Array.toList_inj.1 h
  · rintro rfl; rfl

theorem alike_any (p q : Pkt) (h : ((p.ln : Int) != (q.ln : Int)) = false) (hln : p.ln ≤ 65536) (w : World)
    (hc : ∀ j, j < p.ln → ∃ lb lo d s, p.la = some ⟨lb, lo, none⟩ ∧ q.la = some ⟨lb, lo, none⟩ ∧ lb < w.heap.size ∧ w.cell? ⟨lb, lo + j * 2, none⟩ = some (.int .u32 d) ∧ w.cell? ⟨lb, lo + j * 2 + 1, none⟩ = some (.int .u32 s)) :
    Calls Try.prog 19 #[p.val, q.val] w fun e w' => e = .returned (.bool (alikeB p q)) ∧ Below w.heap.size w w' := by
  by_cases t0 : (p.ttl == q.ttl) = false
  · rw [show alikeB p q = false by simp_all [alikeB]]
    exact alike_arm0 p q h hln w hc t0
  replace t0 := eq_true_of_ne_false t0
  by_cases t1 : (p.kind == q.kind) = false
  · rw [show alikeB p q = false by simp_all [alikeB]]
    exact alike_arm1 p q h hln w hc t0 t1
  replace t1 := eq_true_of_ne_false t1
  by_cases t2 : (p.hops == q.hops) = false
  · rw [show alikeB p q = false by simp_all [alikeB]]
    exact alike_arm2 p q h hln w hc t0 t1 t2
  replace t2 := eq_true_of_ne_false t2
  by_cases t3 : (p.unk == q.unk) = false
  · rw [show alikeB p q = false by
      have : ¬ p.unk = q.unk := beq_eq_false_iff_ne.1 t3
      simp [alikeB, this]]
    exact alike_arm3 p q h hln w hc t0 t1 t2 t3
  replace t3 := eq_true_of_ne_false t3
  by_cases t4 : (p.id == q.id) = false
  · rw [show alikeB p q = false by simp_all [alikeB]]
    exact alike_arm4 p q h hln w hc t0 t1 t2 t3 t4
  replace t4 := eq_true_of_ne_false t4
  by_cases t5 : (p.dest == q.dest) = false
  · rw [show alikeB p q = false by simp_all [alikeB]]
    exact alike_arm5 p q h hln w hc t0 t1 t2 t3 t4 t5
  replace t5 := eq_true_of_ne_false t5
  by_cases t6 : (p.dseq == q.dseq) = false
  · rw [show alikeB p q = false by simp_all [alikeB]]
    exact alike_arm6 p q h hln w hc t0 t1 t2 t3 t4 t5 t6
  replace t6 := eq_true_of_ne_false t6
  by_cases t7 : (p.frm == q.frm) = false
  · rw [show alikeB p q = false by simp_all [alikeB]]
    exact alike_arm7 p q h hln w hc t0 t1 t2 t3 t4 t5 t6 t7
  replace t7 := eq_true_of_ne_false t7
  by_cases t8 : (p.fseq == q.fseq) = false
  · rw [show alikeB p q = false by simp_all [alikeB]]
    exact alike_arm8 p q h hln w hc t0 t1 t2 t3 t4 t5 t6 t7 t8
  replace t8 := eq_true_of_ne_false t8
  by_cases t9 : (p.life == q.life) = false
  · rw [show alikeB p q = false by simp_all [alikeB]]
    exact alike_arm9 p q h hln w hc t0 t1 t2 t3 t4 t5 t6 t7 t8 t9
  replace t9 := eq_true_of_ne_false t9
  rw [show alikeB p q = (p.pay.toList == q.pay.toList) by
    rw [bytes_beq]
    have e3 : p.unk = q.unk := beq_iff_eq.1 t3
    simp only [beq_iff_eq] at t0 t1 t2 t4 t5 t6 t7 t8 t9
    simp [alikeB, t0, t1, t2, e3, t4, t5, t6, t7, t8, t9]]
  exact alike_arm10 p q h hln w hc t0 t1 t2 t3 t4 t5 t6 t7 t8 t9

/-- Has the packet nothing but what its kind has? -/
def Pkt.likeB (p : Pkt) : Bool := decide (p.ln = p.ownP.ln) && alikeB p p.ownP

theorem alike_own (p : Pkt) (hp : p.Wf) (L : List (Int × Int)) (w : World) (hL : HoldsL w p L) :
    Calls Try.prog 19 #[p.val, p.ownP.val] w fun e w' => e = .returned (.bool p.likeB) ∧ Below w.heap.size w w' := by
  by_cases h : p.ln = p.ownP.ln
  · rw [show p.likeB = alikeB p p.ownP by simp [Pkt.likeB, ← h]]
    refine alike_any p p.ownP (by rw [← h]; simp) hp.ln1 w fun j hj => ?_
    have hla : p.ownP.la = p.la := by
      unfold Pkt.ownP at h ⊢
      by_cases h1 : p.kind = 1
      · simp only [h1, if_true] at h; omega
      by_cases h2 : p.kind = 2
      · simp [h2] at h; omega
      by_cases h3 : p.kind = 3
      · simp [h3]
      by_cases h9 : p.kind = 9
      · simp [h9] at h; omega
      · simp [h1, h2, h3, h9] at h; omega
    obtain ⟨lb, lo, d, s, hpa, hlb, _, _, _, _, _, hcd, hcs⟩ := hL.2 j (by rw [hL.1]; exact hj)
    exact ⟨lb, lo, d, s, hpa, hla.trans hpa, hlb, hcd, hcs⟩
  · rw [show p.likeB = false by simp [Pkt.likeB, h]]
    exact alike_ne p p.ownP (by rw [bne_iff_ne]; omega) w

def Pkt.kindB (p : Pkt) : Bool := decide (p.kind = 1 ∨ p.kind = 2 ∨ p.kind = 9 ∨ (p.kind = 3 ∧ 1 ≤ p.ln ∧ p.ln ≤ 8))

/-- The document's answer and the program's ask the same of a packet. -/
theorem good_like (p : Pkt) : p.goodB = (p.likeB && decide (1 ≤ p.ttl ∧ p.ttl ≤ 255) && decide (0 ≤ p.hops ∧ p.hops ≤ 255) && decide (p.pay.size ≤ 16) && p.kindB) := by
  have hz : ∀ s : ByteArray, s = ⟨#[]⟩ ↔ s.size = 0 := fun s => ⟨fun h => by rw [h]; rfl, fun h => ByteArray.ext (Array.eq_empty_of_size_eq_zero h)⟩
  rw [Bool.eq_iff_iff]
  unfold Pkt.goodB Pkt.likeB Pkt.kindB alikeB
  have hs0 : (⟨#[]⟩ : ByteArray).size = 0 := rfl
  have he : ∀ s : ByteArray, s = ByteArray.empty ↔ s.size = 0 := hz
  by_cases h1 : p.kind = 1
  · simp only [Pkt.forP, Pkt.ownP, Pkt.cnt, fitsB, Pkt.blankB, h1, hz, if_true]
    cases p.unk <;> simp <;> grind
  by_cases h2 : p.kind = 2
  · simp [Pkt.forP, Pkt.ownP, Pkt.cnt, fitsB, Pkt.blankB, h2, hz]
    cases p.unk <;> simp <;> grind
  by_cases h3 : p.kind = 3
  · simp [Pkt.forP, Pkt.ownP, Pkt.cnt, fitsB, Pkt.blankB, h3, hz]
    cases p.unk <;> simp <;> grind
  by_cases h9 : p.kind = 9
  · simp [Pkt.forP, Pkt.ownP, Pkt.cnt, fitsB, Pkt.blankB, h9, hs0]
    cases p.unk <;> simp <;> grind
  · simp [Pkt.forP, Pkt.ownP, fitsB, Pkt.blankB, h1, h2, h3, h9]

end Go.Proofs.Ytmahaccaglaldaa
