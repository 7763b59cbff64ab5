import Derived.Test.YtmahaccaglaldaaW8
namespace Go.Proofs.Ytmahaccaglaldaa
open Go.RowKit

set_option maxHeartbeats 4000000 in
theorem alike_arm7 (p q : Pkt) (h : ((p.ln : Int) != (q.ln : Int)) = false) (hln : p.ln ≤ 65536) (w : World)
    (hc : ∀ j, j < p.ln → ∃ lb lo d s, p.la = some ⟨lb, lo, none⟩ ∧ q.la = some ⟨lb, lo, none⟩ ∧ lb < w.heap.size ∧ w.cell? ⟨lb, lo + j * 2, none⟩ = some (.int .u32 d) ∧ w.cell? ⟨lb, lo + j * 2 + 1, none⟩ = some (.int .u32 s))
    (t0 : (p.ttl == q.ttl) = true) (t1 : (p.kind == q.kind) = true) (t2 : (p.hops == q.hops) = true) (t3 : (p.unk == q.unk) = true) (t4 : (p.id == q.id) = true) (t5 : (p.dest == q.dest) = true) (t6 : (p.dseq == q.dseq) = true) (t7 : (p.frm == q.frm) = false) :
    Calls Try.prog 19 #[p.val, q.val] w fun e w' => e = .returned (.bool false) ∧ Below w.heap.size w w' := by
  have hql : Hid (q.ln = p.ln) := by
    have := bne_eq_false_iff_eq.1 h
    show q.ln = p.ln
    omega
  go_enter Try.func19, Try.ntmps19
  go_wp2_with fail
  have hA := AlInv.start p q w
  dsimp only [Pkt.box] at hA
  generalize (w.alloc _).alloc _ = W0 at hA ⊢
  generalize hpa : p.la = pa at hc ⊢
  generalize hqa : q.la = qa at hc ⊢
  go_loopw [5] (fun i wr => ∃ k : Nat, k ≤ p.ln ∧ i = .int .i64 k ∧ AlInv p q w wr) (fun i _ => p.ln - (intOf i).toNat)
  case atStart => exact ⟨0, Nat.zero_le _, rfl, hA⟩
  case round =>
    clear hA
    obtain ⟨k, hk, rfl, hA⟩ := hrel
    obtain ⟨⟨a0, a1, a2, a3, a4, a5, a6, a7, a8, a9, a10, a11⟩, ⟨b0, b1, b2, b3, b4, b5, b6, b7, b8, b9, b10, b11⟩, hB⟩ := id hA
    by_cases hlt : k < p.ln
    · obtain ⟨lb, lo, d, s, rfl, rfl, hlb, hcd, hcs⟩ := hc k hlt
      have hcd' : wr.cell? ⟨lb, lo + k * 2, none⟩ = some (.int .u32 d) := (hB.cell (p := ⟨lb, lo + k * 2, none⟩) hlb).trans hcd
      have hcs' : wr.cell? ⟨lb, lo + k * 2 + 1, none⟩ = some (.int .u32 s) := (hB.cell (p := ⟨lb, lo + k * 2 + 1, none⟩) hlb).trans hcs
      rw [hpa] at a10
      rw [hqa] at b10
      have hlt' : k < q.ln := by rw [hql.out]; exact hlt
      clear hpa hqa hc a0 a1 a2 a3 a4 a5 a6 a7 a8 a9 a11 b0 b1 b2 b3 b4 b5 b6 b7 b8 b9 b11
      go_wp2
      go_quiet (fail)
      go_wp2
      go_roundw
      case rel => exact ⟨k + 1, by omega, by go_num, hA.drewN _⟩
      case measure => simp [intOf]; omega
    · obtain rfl : k = p.ln := by omega
      clear hpa hqa hc hlt hk
      clear a8 b8 a9 b9 a11 b11
      go_wp2
      go_ret
      exact ⟨rfl, hB⟩

set_option maxHeartbeats 4000000 in
theorem alike_arm2 (p q : Pkt) (h : ((p.ln : Int) != (q.ln : Int)) = false) (hln : p.ln ≤ 65536) (w : World)
    (hc : ∀ j, j < p.ln → ∃ lb lo d s, p.la = some ⟨lb, lo, none⟩ ∧ q.la = some ⟨lb, lo, none⟩ ∧ lb < w.heap.size ∧ w.cell? ⟨lb, lo + j * 2, none⟩ = some (.int .u32 d) ∧ w.cell? ⟨lb, lo + j * 2 + 1, none⟩ = some (.int .u32 s))
    (t0 : (p.ttl == q.ttl) = true) (t1 : (p.kind == q.kind) = true) (t2 : (p.hops == q.hops) = false) :
    Calls Try.prog 19 #[p.val, q.val] w fun e w' => e = .returned (.bool false) ∧ Below w.heap.size w w' := by
  have hql : Hid (q.ln = p.ln) := by
    have := bne_eq_false_iff_eq.1 h
    show q.ln = p.ln
    omega
  go_enter Try.func19, Try.ntmps19
  go_wp2_with fail
  have hA := AlInv.start p q w
  dsimp only [Pkt.box] at hA
  generalize (w.alloc _).alloc _ = W0 at hA ⊢
  generalize hpa : p.la = pa at hc ⊢
  generalize hqa : q.la = qa at hc ⊢
  go_loopw [5] (fun i wr => ∃ k : Nat, k ≤ p.ln ∧ i = .int .i64 k ∧ AlInv p q w wr) (fun i _ => p.ln - (intOf i).toNat)
  case atStart => exact ⟨0, Nat.zero_le _, rfl, hA⟩
  case round =>
    clear hA
    obtain ⟨k, hk, rfl, hA⟩ := hrel
    obtain ⟨⟨a0, a1, a2, a3, a4, a5, a6, a7, a8, a9, a10, a11⟩, ⟨b0, b1, b2, b3, b4, b5, b6, b7, b8, b9, b10, b11⟩, hB⟩ := id hA
    by_cases hlt : k < p.ln
    · obtain ⟨lb, lo, d, s, rfl, rfl, hlb, hcd, hcs⟩ := hc k hlt
      have hcd' : wr.cell? ⟨lb, lo + k * 2, none⟩ = some (.int .u32 d) := (hB.cell (p := ⟨lb, lo + k * 2, none⟩) hlb).trans hcd
      have hcs' : wr.cell? ⟨lb, lo + k * 2 + 1, none⟩ = some (.int .u32 s) := (hB.cell (p := ⟨lb, lo + k * 2 + 1, none⟩) hlb).trans hcs
      rw [hpa] at a10
      rw [hqa] at b10
      have hlt' : k < q.ln := by rw [hql.out]; exact hlt
      clear hpa hqa hc a0 a1 a2 a3 a4 a5 a6 a7 a8 a9 a11 b0 b1 b2 b3 b4 b5 b6 b7 b8 b9 b11
      go_wp2
      go_quiet (fail)
      go_wp2
      go_roundw
      case rel => exact ⟨k + 1, by omega, by go_num, hA.drewN _⟩
      case measure => simp [intOf]; omega
    · obtain rfl : k = p.ln := by omega
      clear hpa hqa hc hlt hk
      clear a3 b3 a4 b4 a5 b5 a6 b6 a7 b7 a8 b8 a9 b9 a11 b11
      go_wp2
      go_ret
      exact ⟨rfl, hB⟩

end Go.Proofs.Ytmahaccaglaldaa
