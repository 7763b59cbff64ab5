import Derived.Test.YtmahaccaglaldaaG2
import Derived.Test.YtmahaccaglaldaaG8
namespace Go.Proofs.Ytmahaccaglaldaa
open Go.RowKit

theorem good_parts {p : Pkt} (h : p.goodB = true) : p.likeB = true ∧ 1 ≤ p.ttl ∧ p.ttl ≤ 255 ∧ 0 ≤ p.hops ∧ p.hops ≤ 255 ∧ p.pay.size ≤ 16 ∧ (p.kind = 1 ∨ p.kind = 2 ∨ p.kind = 9 ∨ (p.kind = 3 ∧ 1 ≤ p.ln ∧ p.ln ≤ 8)) := by
  rw [good_like] at h
  simp only [Bool.and_eq_true, decide_eq_true_eq, Pkt.kindB] at h
  obtain ⟨⟨⟨⟨h1, h2⟩, h3⟩, h4⟩, h5⟩ := h
  exact ⟨h1, h2.1, h2.2, h3.1, h3.2, h4, h5⟩

theorem like_parts {p : Pkt} (h : p.likeB = true) : p.ln = p.ownP.ln ∧ p.unk = p.ownP.unk ∧ p.hops = p.ownP.hops ∧ p.pay = p.ownP.pay := by
  simp only [Pkt.likeB, alikeB, Bool.and_eq_true, decide_eq_true_eq] at h
  exact ⟨h.1, h.2.2.2.2.1, h.2.2.2.1, h.2.2.2.2.2.2.2.2.2.2.2⟩

theorem lost_nil {L : List (Int × Int)} (h : L.length = 0) : lostB L L.length = [] := by
  obtain rfl := List.eq_nil_of_length_eq_zero h
  rfl
theorem strNums_nil : strNums ⟨#[]⟩ = [] := rfl

theorem refE_good (p : Pkt) (hp : p.Wf) (hg : p.goodB = true) (L : List (Int × Int)) (w : World) (hL : HoldsL w p L) :
    Calls Try.prog 7 #[p.val] w fun e w' => e = .returned (.tuple #[.string (strOfNums (encB p L)), .int .i64 0]) ∧ Below w.heap.size w w' := by
  obtain ⟨hl, ht0, ht1, hh0, hh1, hpay, hk⟩ := good_parts hg
  obtain ⟨e1, e2, e3, e4⟩ := like_parts hl
  have hLn := hL.1
  rcases hk with hk | hk | hk | ⟨hk, hn0, hn1⟩
  · have q1 : p.ownP.ln = 0 := by simp [Pkt.ownP, hk]
    have q2 : p.ownP.pay = ⟨#[]⟩ := by simp [Pkt.ownP, hk]
    rw [q1] at e1
    rw [q2] at e4
    cases hu : p.unk
    · rw [show encB p L = [p.ttl, 1, 0, 0, p.hops] ++ b4 p.id ++ b4 p.dest ++ b4 p.dseq ++ b4 p.frm ++ b4 p.fseq by
        rw [encB, lost_nil (by omega), e4, strNums_nil]
        simp [Pkt.head, Pkt.cnt, flagB, hk, hu, Pkt.numB, Pkt.nums]]
      exact refE_1f p hp hk hu hl ht0 ht1 hh0 hh1 hpay L w hL
    · rw [show encB p L = [p.ttl, 1, 8, 0, p.hops] ++ b4 p.id ++ b4 p.dest ++ b4 p.dseq ++ b4 p.frm ++ b4 p.fseq by
        rw [encB, lost_nil (by omega), e4, strNums_nil]
        simp [Pkt.head, Pkt.cnt, flagB, hk, hu, Pkt.numB, Pkt.nums]]
      exact refE_1t p hp hk hu hl ht0 ht1 hh0 hh1 hpay L w hL
  · have q1 : p.ownP.ln = 0 := by simp [Pkt.ownP, hk]
    have q2 : p.ownP.pay = ⟨#[]⟩ := by simp [Pkt.ownP, hk]
    have q3 : p.ownP.unk = false := by simp [Pkt.ownP, hk]
    rw [q1] at e1
    rw [q2] at e4
    rw [q3] at e2
    rw [show encB p L = [p.ttl, 2, 0, 0, p.hops] ++ b4 p.dest ++ b4 p.dseq ++ b4 p.frm ++ b4 p.life by
      rw [encB, lost_nil (by omega), e4, strNums_nil]
      simp [Pkt.head, Pkt.cnt, flagB, hk, e2, Pkt.numB, Pkt.nums]]
    exact refE_2 p hp hk hl ht0 ht1 hh0 hh1 hpay L w hL
  · have q1 : p.ownP.ln = 0 := by simp [Pkt.ownP, hk]
    have q3 : p.ownP.unk = false := by simp [Pkt.ownP, hk]
    rw [q1] at e1
    rw [q3] at e2
    rw [show encB p L = [p.ttl, 9, 0, 0, (p.pay.size : Int)] ++ b4 p.id ++ b4 p.dest ++ b4 p.frm ++ strNums p.pay by
      rw [encB, lost_nil (by omega)]
      simp [Pkt.head, Pkt.cnt, flagB, hk, e2, Pkt.numB, Pkt.nums]]
    exact refE_9 p hp hk hl ht0 ht1 hh0 hh1 hpay L w hL
  · have q2 : p.ownP.pay = ⟨#[]⟩ := by simp [Pkt.ownP, hk]
    have q3 : p.ownP.unk = false := by simp [Pkt.ownP, hk]
    rw [q2] at e4
    rw [q3] at e2
    rw [show encB p L = [p.ttl, 3, 0, 0, (p.ln : Int)] ++ lostB L p.ln by
      rw [encB, e4, strNums_nil, hLn]
      simp [Pkt.head, Pkt.cnt, flagB, hk, e2, Pkt.numB, Pkt.nums]]
    exact refE_3 p hp hk hl ht0 ht1 hh0 hh1 hpay hn0 hn1 L w hL

theorem refE_bad (p : Pkt) (hp : p.Wf) (hg : p.goodB = false) (L : List (Int × Int)) (w : World) (hL : HoldsL w p L) :
    Calls Try.prog 7 #[p.val] w fun e w' => e = .returned (.tuple #[.string ⟨#[]⟩, .int .i64 1]) ∧ Below w.heap.size w w' := by
  rw [good_like] at hg
  cases hl : p.likeB
  · exact refE_b0 p hp hl L w hL
  by_cases h1 : p.ttl < 1
  · exact refE_b1 p hp hl h1 L w hL
  by_cases h2 : 255 < p.ttl
  · exact refE_b2 p hp hl (by omega) h2 L w hL
  by_cases h3 : p.hops < 0
  · exact refE_b3 p hp hl (by omega) (by omega) h3 L w hL
  by_cases h4 : 255 < p.hops
  · exact refE_b4 p hp hl (by omega) (by omega) (by omega) h4 L w hL
  by_cases h5 : 16 < p.pay.size
  · exact refE_b5 p hp hl (by omega) (by omega) (by omega) (by omega) h5 L w hL
  have hk : p.kindB = false := by
    rw [hl, decide_eq_true (by omega), decide_eq_true (by omega), decide_eq_true (by omega)] at hg
    simpa using hg
  simp only [Pkt.kindB, decide_eq_false_iff_not, not_or, not_and] at hk
  obtain ⟨k1, k2, k9, k3⟩ := hk
  by_cases h3k : p.kind = 3
  · by_cases hn : p.ln < 1
    · exact refE_b6 p hp h3k hl (by omega) (by omega) (by omega) (by omega) (by omega) hn L w hL
    · have := k3 h3k (by omega)
      exact refE_b7 p hp h3k hl (by omega) (by omega) (by omega) (by omega) (by omega) (by omega) (by omega) L w hL
  · exact refE_b8 p hp (by simpa using k1) (by simpa using k2) (by simpa using h3k) (by simpa using k9) hl (by omega) (by omega) (by omega) (by omega) (by omega) L w hL
end Go.Proofs.Ytmahaccaglaldaa
