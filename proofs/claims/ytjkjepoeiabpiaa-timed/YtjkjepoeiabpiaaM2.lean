import Derived.Test.YtjkjepoeiabpiaaM1
namespace Go.Proofs.Ytjkjepoeiabpiaa
open Go.RowKit Go.Maps
open Hp

theorem slice_toR (g n c k : Nat) (hk : k ≤ c) (W : World) : (Instr.slice 56 (.slice (some ⟨g, 0, none⟩) n c) none (some (.int .i64 k)) none).run Try.prog W = .ok (.slice (some ⟨g, 0, none⟩) k c) W := by
  have ht : Try.prog.underlying 56 = some (.slice (Try.prog.elem 56)) := by simp [Program.elem, Try.underlying56]
  have hz : ∀ w, (Go.sizeOf (Try.prog.elem 56)).run Try.prog w = .ok 3 w := by
    intro w
    simp [go_sem, Program.elem, Try.underlying56]
  rw [run_slice_h W 56 _ _ _ ht .i64 _ (by omega) (by omega), hz]
  simp only [Result.andThen, sliced]
  rw [Nat.sub_zero, Nat.sub_zero, Int.toNat_natCast]
  split <;> simp [Addr.add]
theorem slice_fromR (g n c k : Nat) (hk : k ≤ n) : ∃ ad : Addr, (∀ W, (Instr.slice 56 (.slice (some ⟨g, 0, none⟩) n c) (some (.int .i64 k)) none none).run Try.prog W = .ok (.slice (some ad) (n - k) (c - k)) W) ∧ (k < c → ad = ⟨g, k * 3, none⟩) := by
  have ht : Try.prog.underlying 56 = some (.slice (Try.prog.elem 56)) := by simp [Program.elem, Try.underlying56]
  have hz : ∀ w, (Go.sizeOf (Try.prog.elem 56)).run Try.prog w = .ok 3 w := by
    intro w
    simp [go_sem, Program.elem, Try.underlying56]
  refine ⟨if c = k then ⟨g, 0, none⟩ else ⟨g, k * 3, none⟩, fun W => ?_, fun h => by rw [if_neg (by omega)]⟩
  rw [run_slice_l W 56 _ _ _ ht .i64 _ (by omega) (by omega), hz]
  simp only [Result.andThen, sliced]
  rw [Int.toNat_natCast]
  split <;> simp [Addr.add_lit]

set_option maxRecDepth 100000 in
set_option maxHeartbeats 4000000 in
theorem without_any (base T : Nat) (last : Int) (A : List Tm) (v : Value) (w : World) (r : RR base T last A v w) (i : Nat) (hi : i < A.length) (hn : A.length ≤ 1000000) (hbs : base ≤ w.heap.size) :
    Calls Try.prog 53 #[.pointer (some ⟨T, 0, none⟩), .int .i64 i] w fun e w' => e = .returned (.tuple #[]) ∧ ∃ v', RR base T last (A.eraseIdx i) v' w' ∧ Fr T T v w w' ∧ ∀ k, v'.ownBlock = some k → w.heap.size ≤ k := by
  obtain ⟨i0, hii, hz0, hz1, hz2⟩ := info_parts info_tr
  obtain ⟨g, cap, rfl, hg⟩ := r.shape (by omega)
  have hT := r.blk.lt
  obtain ⟨c0, c1⟩ := r.blk.cell
  have hcapn : A.length ≤ cap := by
    rcases r.row.2 with ⟨he, _⟩ | ⟨_, _, _, he, _, _, k3, _⟩
    · cases he
    · cases he; exact k3
  have hs1 := slice_toR g A.length cap i (by omega)
  obtain ⟨ad, hs2, had⟩ := slice_fromR g A.length cap (i + 1) (by omega)
  have hlt := RL_length (A.take i)
  have hld := RL_length (A.drop (i + 1))
  rw [List.length_take, Nat.min_eq_left (Nat.le_of_lt hi)] at hlt
  rw [List.length_drop] at hld
  have hl := RL_length A
  have hlen : (A.eraseIdx i).length = i + (A.length - (i + 1)) := by
    rw [List.length_eraseIdx_of_lt hi]; omega
  have hER : RL (A.eraseIdx i) = RL (A.take i) ++ RL (A.drop (i + 1)) := by
    rw [List.eraseIdx_eq_take_drop_succ, RL_append]
  have hok : ∀ x ∈ A.eraseIdx i, TOk x := fun x hx => r.ok x (List.mem_of_mem_eraseIdx hx)
  have hcT : ∀ (j : Nat) (u : Value), (RL (A.take i))[j]? = some u → w.cell? ((⟨g, 0, none⟩ : Addr).add j) = some u := by
    intro j u hj
    rw [RL_take, List.getElem?_take] at hj
    split at hj
    · have := (r.row.cellAt j (by omega)).trans hj
      rw [Addr.add_lit, Nat.zero_add]
      exact this
    · cases hj
  have hcD : ∀ W : World, W.heap[g]? = w.heap[g]? → ∀ (j : Nat) (u : Value), (RL (A.drop (i + 1)))[j]? = some u → W.cell? (ad.add j) = some u := by
    intro W hW j u hj
    have hjl : j < (RL (A.drop (i + 1))).length := by
      rcases Nat.lt_or_ge j (RL (A.drop (i + 1))).length with a | a
      · exact a
      · rw [List.getElem?_eq_none a] at hj; cases hj
    rw [hld] at hjl
    have hlt2 : i + 1 < A.length := by
      rcases Nat.lt_or_ge (i + 1) A.length with a | a
      · exact a
      · rw [show A.length - (i + 1) = 0 by omega] at hjl; omega
    rw [had (by omega)]
    rw [RL_drop, List.getElem?_drop] at hj
    have hlt3 : (i + 1) * 3 + j < A.length * 3 := by
      rw [Nat.sub_mul] at hjl; omega
    rw [Addr.add_lit]
    exact (World.cell?_of_block (a := ⟨g, (i + 1) * 3 + j, none⟩) hW).trans ((r.row.cellAt ((i + 1) * 3 + j) hlt3).trans hj)
  have hgw := (r.row.lt g rfl).2
  have hap := r.apart
  have hbT := r.bT
  have hB := r.blk
  have h0 : w.ownsRow w.heap.size 110 3 (.slice none 0 0) 0 [] := ⟨rfl, .inl ⟨rfl, rfl⟩⟩
  have hsum : Hid ((A.eraseIdx i).length = i + (A.length - (i + 1))) := hlen
  have hk1 : Hid (0 + i ≤ maxLen) := by show _ ≤ _; unfold maxLen; omega
  have hk2 : Hid ((0 + i) * 24 ≤ 140737488355328) := by show _ ≤ _; omega
  have hk3 : Hid (i + (A.length - (i + 1)) ≤ maxLen) := by show _ ≤ _; unfold maxLen; omega
  have hk4 : Hid ((i + (A.length - (i + 1))) * 24 ≤ 140737488355328) := by show _ ≤ _; omega
  have hi64 : (i : Int) + 1 < 9223372036854775808 := by omega
  have hli : (i : Int) ≤ (A.length : Int) := by omega
  have hs2' : ∀ W, (Instr.slice 56 (.slice (some ⟨g, 0, none⟩) A.length cap) (some (.int .i64 ((i : Int) + 1))) none none).run Try.prog W = .ok (.slice (some ad) (A.length - (i + 1)) (cap - (i + 1))) W := hs2
  clear hs2 r hl hlen had hcapn
  go_enter Try.func53, Try.ntmps53
  go_wp2_with (at_builtin; refine wpList_append_own_at _ rfl _ _ 56 rfl w.heap.size 110 i0 (.agg #[.int .i64 0, .int .i64 0, .int .u64 0]) 3 24 Try.underlying56 hii hz0 hz1 hz2 rfl (by decide) (.slice none 0 0) 0 [] rfl h0 ⟨g, 0, none⟩ i cap (RL (A.take i)) rfl hlt hcT (one_R _) hk1.out hk2.out (Nat.le_refl _) ?_)
  intro v1 w1 ho1 hg1 _ _
  have hb1 : Below w.heap.size w w1 := ⟨hg1.os, hg1.tape, hg1.output, hg1.size, fun k hk => hg1.block k hk (by simp [Value.ownBlock])⟩
  have hB1 := hB.kept hg1 (by simp [Value.ownBlock])
  have hcD1 : ∀ (j : Nat) (u : Value), (RL (A.drop (i + 1)))[j]? = some u → w1.cell? (ad.add j) = some u := hcD w1 (hb1.block g hgw)
  clear c0 c1 hs1 hcT hcD hB h0 hg1 hk1 hk2
  obtain ⟨c0, c1⟩ := hB1.cell
  go_wp2_with (at_builtin; refine wpList_append_own_at _ rfl _ _ 56 rfl w.heap.size 110 i0 (.agg #[.int .i64 0, .int .i64 0, .int .u64 0]) 3 24 Try.underlying56 hii hz0 hz1 hz2 rfl (by decide) v1 i (RL (A.take i)) rfl ho1 ad (A.length - (i + 1)) (cap - (i + 1)) (RL (A.drop (i + 1))) rfl hld hcD1 (one_R _) hk3.out hk4.out hb1.size ?_)
  intro v2 w2 ho2 hg2 _ _
  obtain ⟨ao2, cap2, rfl, _⟩ := row_form ho2
  have hv1 : ∀ k, v1.ownBlock = some k → w.heap.size ≤ k := fun k hk => (ho1.lt k hk).1
  have hv2 : ∀ k, (Value.slice ao2 (i + (A.length - (i + 1))) cap2).ownBlock = some k → w.heap.size ≤ k := fun k hk => (ho2.lt k hk).1
  have hT1 : some T ≠ v1.ownBlock := fun e => by have := hv1 T e.symm; omega
  have hT2 : some T ≠ (Value.slice ao2 (i + (A.length - (i + 1))) cap2).ownBlock := fun e => by have := hv2 T e.symm; omega
  have hB2 := hB1.kept hg2 hT1
  have hF2 : Fr T T (.slice (some ⟨g, 0, none⟩) A.length cap) w w2 := by
    refine ⟨hg2.os.trans hb1.os, hg2.tape.trans hb1.tape, hg2.output.trans hb1.output, Nat.le_trans hb1.size hg2.size, fun k hk _ _ _ => ?_⟩
    rw [hg2.block k (Nat.lt_of_lt_of_le hk hb1.size) (fun e => by have := hv1 k e.symm; omega)]
    exact hb1.block k hk
  have hg3 : w2.grownBy (w2.setCell ⟨T, 0, none⟩ (.slice ao2 (i + (A.length - (i + 1))) cap2)) (some T) := grown_st (grown_rfl _ _) 0 _
  have hB3 := hB2.set (.slice ao2 (i + (A.length - (i + 1))) cap2)
  have ho3 := ho2.kept hg3 (.inr (Ne.symm hT2))
  have hF3 := hF2.trans (Fr.grown (T := T) (M := T) (v := .slice (some ⟨g, 0, none⟩) A.length cap) hg3 (.inr (.inl rfl))) (.inl rfl)
  have r3 : RR base T last (A.eraseIdx i) (.slice ao2 (i + (A.length - (i + 1))) cap2) (w2.setCell ⟨T, 0, none⟩ (.slice ao2 (i + (A.length - (i + 1))) cap2)) := by
    refine ⟨hB3, ?_, hok, hbT⟩
    rw [hER, hsum.out]
    exact row_lower ho3 hbs
  obtain ⟨d0, d1⟩ := hB2.cell
  have df := hB2.free 0
  clear c0 c1 hs2' hcD1 hB1 hb1 ho1 hg2 hB2 hF2 hg3 hB3 ho3 ho2 hk3 hk4
  go_wp2
  go_returns
  exact ⟨rfl, _, r3, hF3, hv2⟩
end Go.Proofs.Ytjkjepoeiabpiaa
