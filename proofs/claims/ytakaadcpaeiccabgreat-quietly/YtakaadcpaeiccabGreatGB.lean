import Derived.Test.YtakaadcpaeiccabGreatGC
import Derived.Deep.RegionHeld3
import Derived.Deep.QuietTactic
import Derived.BigQuiet
import Derived.Test.YtakaadcpaeiccabGreatL1
namespace Go.Proofs.YtakaadcpaeiccabGreat
open Go.RowKit

set_option maxHeartbeats 400000 in
theorem numbers_1 (B : Nat) (w : World) (hc : w.cell? ⟨B, 1, none⟩ = some (.int .i64 1)) :
    Calls Tryz.prog 86 #[.pointer (some ⟨B, 0, none⟩)] w fun e w' => e = .returned (.slice (some ⟨w.heap.size, 0, none⟩) 5 5) ∧
      w' = (w.alloc (.cells #[.pointer (some ⟨B, 4, none⟩), .pointer (some ⟨B, 5, none⟩), .pointer (some ⟨B, 6, none⟩), .pointer (some ⟨B, 7, none⟩), .pointer (some ⟨B, 8, none⟩)] 189)).drew := by
  go_enter Tryz.func86, Tryz.ntmps86
  go_wp2
  go_region_held3 (fun _ => True) (trivial) (fail)
  go_wp2
  all_goals (go_ret; exact ⟨rfl, rfl⟩)

set_option maxHeartbeats 400000 in
theorem numbers_2 (B : Nat) (w : World) (hc : w.cell? ⟨B, 1, none⟩ = some (.int .i64 2)) :
    Calls Tryz.prog 86 #[.pointer (some ⟨B, 0, none⟩)] w fun e w' => e = .returned (.slice (some ⟨w.heap.size, 0, none⟩) 4 4) ∧
      w' = (w.alloc (.cells #[.pointer (some ⟨B, 5, none⟩), .pointer (some ⟨B, 6, none⟩), .pointer (some ⟨B, 7, none⟩), .pointer (some ⟨B, 9, none⟩)] 189)).drew := by
  go_enter Tryz.func86, Tryz.ntmps86
  go_wp2
  go_region_held3 (fun _ => True) (trivial) (fail)
  go_wp2
  all_goals (go_ret; exact ⟨rfl, rfl⟩)

set_option maxHeartbeats 400000 in
theorem numbers_9 (B : Nat) (w : World) (hc : w.cell? ⟨B, 1, none⟩ = some (.int .i64 9)) :
    Calls Tryz.prog 86 #[.pointer (some ⟨B, 0, none⟩)] w fun e w' => e = .returned (.slice (some ⟨w.heap.size, 0, none⟩) 3 3) ∧
      w' = (w.alloc (.cells #[.pointer (some ⟨B, 4, none⟩), .pointer (some ⟨B, 5, none⟩), .pointer (some ⟨B, 7, none⟩)] 189)).drew := by
  go_enter Tryz.func86, Tryz.ntmps86
  go_wp2
  go_region_held3 (fun _ => True) (trivial) (fail)
  go_wp2
  all_goals (go_ret; exact ⟨rfl, rfl⟩)

set_option maxHeartbeats 400000 in
theorem numbers_0 (B : Nat) (k : Int) (h1 : (k == 1) = false) (h2 : (k == 2) = false) (h9 : (k == 9) = false) (w : World) (hc : w.cell? ⟨B, 1, none⟩ = some (.int .i64 k)) :
    Calls Tryz.prog 86 #[.pointer (some ⟨B, 0, none⟩)] w fun e w' => e = .returned (.slice none 0 0) ∧ w' = w := by
  go_enter Tryz.func86, Tryz.ntmps86
  go_wp2
  all_goals (go_ret; exact ⟨rfl, rfl⟩)

/-- A packet without what its kind has. -/
def Pkt.forP (p : Pkt) : Pkt :=
  if p.kind = 1 then { p with hops := 0, unk := false, id := 0, dest := 0, dseq := 0, frm := 0, fseq := 0 }
  else if p.kind = 2 then { p with hops := 0, dest := 0, dseq := 0, frm := 0, life := 0 }
  else if p.kind = 3 then { p with la := none, ln := 0, lc := 0 }
  else if p.kind = 9 then { p with id := 0, dest := 0, frm := 0, pay := ⟨#[]⟩ }
  else p

set_option maxHeartbeats 1000000 in
theorem foreign_1 (p : Pkt) (hk : p.kind = 1) (w : World) :
    Calls Tryz.prog 128 #[p.val] w fun e w' => e = .returned p.forP.val ∧ Below w.heap.size w w' := by
  obtain ⟨ttl, kind, hops, unk, id, dest, dseq, frm, fseq, life, la, ln, lc, pay⟩ := p
  simp only at hk
  subst hk
  go_enter Tryz.func128, Tryz.ntmps128
  go_wp2_with (go_at_call 86; refine (numbers_1 _ _ ?_).mono ?_; (simp [go_sem]); rintro e w' ⟨rfl, rfl⟩)
  go_rounds 6
  all_goals (go_returns; refine ⟨rfl, ?_⟩; go_grown)

set_option maxHeartbeats 1000000 in
theorem foreign_2 (p : Pkt) (hk : p.kind = 2) (w : World) :
    Calls Tryz.prog 128 #[p.val] w fun e w' => e = .returned p.forP.val ∧ Below w.heap.size w w' := by
  obtain ⟨ttl, kind, hops, unk, id, dest, dseq, frm, fseq, life, la, ln, lc, pay⟩ := p
  simp only at hk
  subst hk
  go_enter Tryz.func128, Tryz.ntmps128
  go_wp2_with (go_at_call 86; refine (numbers_2 _ _ ?_).mono ?_; (simp [go_sem]); rintro e w' ⟨rfl, rfl⟩)
  go_rounds 5
  all_goals (go_returns; refine ⟨rfl, ?_⟩; go_grown)

set_option maxHeartbeats 1000000 in
theorem foreign_3 (p : Pkt) (hk : p.kind = 3) (w : World) :
    Calls Tryz.prog 128 #[p.val] w fun e w' => e = .returned p.forP.val ∧ Below w.heap.size w w' := by
  obtain ⟨ttl, kind, hops, unk, id, dest, dseq, frm, fseq, life, la, ln, lc, pay⟩ := p
  simp only at hk
  subst hk
  go_enter Tryz.func128, Tryz.ntmps128
  go_wp2_with (go_at_call 86; refine (numbers_0 _ 3 rfl rfl rfl _ ?_).mono ?_; (simp [go_sem]); rintro e w' ⟨rfl, rfl⟩)
  go_rounds 1
  all_goals (go_returns; refine ⟨rfl, ?_⟩; go_grown)

set_option maxHeartbeats 1000000 in
theorem foreign_9 (p : Pkt) (hk : p.kind = 9) (w : World) :
    Calls Tryz.prog 128 #[p.val] w fun e w' => e = .returned p.forP.val ∧ Below w.heap.size w w' := by
  obtain ⟨ttl, kind, hops, unk, id, dest, dseq, frm, fseq, life, la, ln, lc, pay⟩ := p
  simp only at hk
  subst hk
  go_enter Tryz.func128, Tryz.ntmps128
  go_wp2_with (go_at_call 86; refine (numbers_9 _ _ ?_).mono ?_; (simp [go_sem]); rintro e w' ⟨rfl, rfl⟩)
  go_rounds 4
  all_goals (go_returns; refine ⟨rfl, ?_⟩; go_grown)

set_option maxHeartbeats 1000000 in
theorem foreign_0 (p : Pkt) (h1 : (p.kind == 1) = false) (h2 : (p.kind == 2) = false) (h3 : (p.kind == 3) = false) (h9 : (p.kind == 9) = false) (w : World) :
    Calls Tryz.prog 128 #[p.val] w fun e w' => e = .returned p.forP.val ∧ Below w.heap.size w w' := by
  have hf : p.forP = p := by
    unfold Pkt.forP
    simp only [beq_eq_false_iff_ne, ne_eq] at h1 h2 h3 h9
    simp [h1, h2, h3, h9]
  rw [hf]
  clear hf
  go_enter Tryz.func128, Tryz.ntmps128
  go_wp2_with (go_at_call 86; refine (numbers_0 _ p.kind h1 h2 h9 _ ?_).mono ?_; (simp [go_sem]); rintro e w' ⟨rfl, rfl⟩)
  go_rounds 1
  all_goals (go_returns; refine ⟨rfl, ?_⟩; go_grown)

theorem foreign_any (p : Pkt) (w : World) :
    Calls Tryz.prog 128 #[p.val] w fun e w' => e = .returned p.forP.val ∧ Below w.heap.size w w' := by
  by_cases h1 : p.kind = 1
  · exact foreign_1 p h1 w
  by_cases h2 : p.kind = 2
  · exact foreign_2 p h2 w
  by_cases h3 : p.kind = 3
  · exact foreign_3 p h3 w
  by_cases h9 : p.kind = 9
  · exact foreign_9 p h9 w
  exact foreign_0 p (by simpa using h1) (by simpa using h2) (by simpa using h3) (by simpa using h9) w
end Go.Proofs.YtakaadcpaeiccabGreat

namespace Go.Proofs.YtakaadcpaeiccabGreat
open Go.RowKit

/-- The packet's box, as it lies behind the world w. -/
@[reducible] def InB (p : Pkt) (w W : World) : Prop :=
  W.cell? ⟨w.heap.size, 0, none⟩ = some (.int .i64 p.ttl) ∧ W.cell? ⟨w.heap.size, 1, none⟩ = some (.int .i64 p.kind) ∧ W.cell? ⟨w.heap.size, 2, none⟩ = some (.int .i64 p.hops) ∧
  W.cell? ⟨w.heap.size, 3, none⟩ = some (.bool p.unk) ∧ W.cell? ⟨w.heap.size, 4, none⟩ = some (.int .u32 p.id) ∧ W.cell? ⟨w.heap.size, 5, none⟩ = some (.int .u32 p.dest) ∧
  W.cell? ⟨w.heap.size, 6, none⟩ = some (.int .u32 p.dseq) ∧ W.cell? ⟨w.heap.size, 7, none⟩ = some (.int .u32 p.frm) ∧ W.cell? ⟨w.heap.size, 8, none⟩ = some (.int .u32 p.fseq) ∧
  W.cell? ⟨w.heap.size, 9, none⟩ = some (.int .u32 p.life) ∧ W.cell? ⟨w.heap.size, 10, none⟩ = some (.slice p.la p.ln p.lc) ∧ W.cell? ⟨w.heap.size, 11, none⟩ = some (.string p.pay) ∧
  w.heap.size < W.heap.size ∧ Below w.heap.size w W

theorem InB.start (p : Pkt) (w : World) : InB p w (w.alloc p.box).drew :=
  ⟨World.cell?_alloc_new w _ _ _, World.cell?_alloc_new w _ _ _, World.cell?_alloc_new w _ _ _, World.cell?_alloc_new w _ _ _, World.cell?_alloc_new w _ _ _, World.cell?_alloc_new w _ _ _,
   World.cell?_alloc_new w _ _ _, World.cell?_alloc_new w _ _ _, World.cell?_alloc_new w _ _ _, World.cell?_alloc_new w _ _ _, World.cell?_alloc_new w _ _ _, World.cell?_alloc_new w _ _ _,
   by simp, ((Below.refl _ _).alloc (Nat.le_refl _) _).drew⟩

theorem InB.below {p : Pkt} {w W W1 : World} (h : InB p w W) (hb : Below W.heap.size W W1) : InB p w W1 := by
  obtain ⟨c0, c1, c2, c3, c4, c5, c6, c7, c8, c9, c10, c11, hs, hB⟩ := h
  have k : ∀ i, W1.cell? ⟨w.heap.size, i, none⟩ = W.cell? ⟨w.heap.size, i, none⟩ := fun i => hb.cell (p := ⟨w.heap.size, i, none⟩) hs
  exact ⟨(k _).trans c0, (k _).trans c1, (k _).trans c2, (k _).trans c3, (k _).trans c4, (k _).trans c5, (k _).trans c6, (k _).trans c7, (k _).trans c8, (k _).trans c9, (k _).trans c10, (k _).trans c11,
    Nat.lt_of_lt_of_le hs hb.size, hB.trans (hb.mono (Nat.le_of_lt hs))⟩

theorem below_then {B : Nat} {w w1 w2 : World} (h : Below B w w1) (hB : B ≤ w1.heap.size) (h2 : Below w1.heap.size w1 w2) : Below B w w2 := h.trans (h2.mono hB)
theorem below_then2 {B : Nat} {w w1 w2 w3 : World} (h : Below B w w1) (hs : B < w1.heap.size) (h2 : Below w1.heap.size w1 w2) (h3 : Below w2.heap.size w2 w3) : Below B w w3 :=
  (h.trans (h2.mono (Nat.le_of_lt hs))).trans (h3.mono (Nat.le_trans (Nat.le_of_lt hs) h2.size))

def Pkt.goodB (p : Pkt) : Bool :=
  decide (1 ≤ p.ttl ∧ p.ttl ≤ 255) && fitsB p.kind p.cnt && !(p.unk && p.dseq != 0) && p.forP.blankB

theorem Pkt.Wf.forP {p : Pkt} (h : p.Wf) : p.forP.Wf := by
  obtain ⟨h1, h2, h3, h4, h5, h6, h7, h8, h9, h10, h11, h12, h13, h14, h15, h16, h17, h18, h19, h20⟩ := h
  unfold Pkt.forP
  split
  · constructor <;> (dsimp only; omega)
  split
  · constructor <;> (dsimp only; omega)
  split
  · constructor <;> (dsimp only; omega)
  split
  · constructor <;> (first | (dsimp only; omega) | (simp [ByteArray.size]))
  · constructor <;> assumption

set_option maxHeartbeats 1000000 in
theorem isPacket_lo (p : Pkt) (w : World) (ht : p.ttl < 1) :
    Calls Tryz.prog 90 #[p.val] w fun e w' => e = .returned (.bool false) ∧ Below w.heap.size w w' := by
  have d1 : decide (p.ttl < 1) = true := by simpa using ht
  go_enter Tryz.func90, Tryz.ntmps90
  go_wp2
  go_quiet (fail)
  all_goals go_wp2
  all_goals (go_ret; go_light; refine ⟨rfl, below_drewN ?_ _⟩; go_grown)

set_option maxHeartbeats 1000000 in
theorem isPacket_hi (p : Pkt) (w : World) (ht : ¬ p.ttl < 1) (ht2 : 255 < p.ttl) :
    Calls Tryz.prog 90 #[p.val] w fun e w' => e = .returned (.bool false) ∧ Below w.heap.size w w' := by
  have d1 : decide (p.ttl < 1) = false := by simpa using ht
  have d2 : decide (255 < p.ttl) = true := by simpa using ht2
  go_enter Tryz.func90, Tryz.ntmps90
  go_wp2
  go_quiet (fail)
  all_goals go_wp2
  all_goals (go_ret; go_light; refine ⟨rfl, below_drewN ?_ _⟩; go_grown)

set_option maxHeartbeats 1000000 in
theorem isPacket_mid (p : Pkt) (hp : p.Wf) (w : World) (ht : ¬ p.ttl < 1) (ht2 : ¬ 255 < p.ttl) :
    Calls Tryz.prog 90 #[p.val] w fun e w' => e = .returned (.bool (fitsB p.kind p.cnt && !(p.unk && p.dseq != 0) && p.forP.blankB)) ∧ Below w.heap.size w w' := by
  have d1 : decide (p.ttl < 1) = false := by simpa using ht
  have d2 : decide (255 < p.ttl) = false := by simpa using ht2
  go_enter Tryz.func90, Tryz.ntmps90
  go_wp2
  go_region_held3 (InB p w) (first | exact InB.start p w | assumption | exact InB.below (by assumption) (by assumption)) (first
    | (go_at_call 126; refine (count_any p _).mono ?_; rintro e w1 ⟨rfl, hb1⟩)
    | (go_at_call 125; refine (fits_any _ _ _).mono ?_; rintro e w1 ⟨rfl, rfl⟩))
  obtain ⟨c0, c1, c2, c3, c4, c5, c6, c7, c8, c9, c10, c11, hs, hB⟩ : InB p w _ := by assumption
  clear hb1
  have hf := hp.forP
  have hz : p.forP.Wf := hf
  obtain ⟨ttl, kind, hops, unk, id, dest, dseq, frm, fseq, life, la, ln, lc, pay⟩ := p
  cases unk
  all_goals (try dsimp only at c0 c1 c2 c3 c4 c5 c6 c7 c8 c9 c10 c11)
  · go_wp2_with (first
      | (go_at_call 128; refine (foreign_any ⟨ttl, kind, hops, false, id, dest, dseq, frm, fseq, life, la, ln, lc, pay⟩ _).mono ?_; rintro e w2 ⟨rfl, hb2⟩)
      | (go_at_call 127; refine (isBlank_any _ hz _).mono ?_; rintro e w3 ⟨rfl, hb3⟩))
    all_goals (go_ret; go_light; refine ⟨ret_bool ?_, ?_⟩)
    all_goals first | (simp_all; done) | exact hB | exact below_then2 hB hs hb2 hb3
  · go_wp2_with (first
      | (go_at_call 128; refine (foreign_any ⟨ttl, kind, hops, true, id, dest, dseq, frm, fseq, life, la, ln, lc, pay⟩ _).mono ?_; rintro e w2 ⟨rfl, hb2⟩)
      | (go_at_call 127; refine (isBlank_any _ hz _).mono ?_; rintro e w3 ⟨rfl, hb3⟩))
    all_goals (go_ret; go_light; refine ⟨ret_bool ?_, ?_⟩)
    all_goals first | (simp_all; done) | exact hB | exact below_then2 hB hs hb2 hb3

theorem isPacket_any (p : Pkt) (hp : p.Wf) (w : World) :
    Calls Tryz.prog 90 #[p.val] w fun e w' => e = .returned (.bool p.goodB) ∧ Below w.heap.size w w' := by
  by_cases h1 : p.ttl < 1
  · have : p.goodB = false := by
      unfold Pkt.goodB
      rw [decide_eq_false (by omega)]
      simp
    rw [this]
    exact isPacket_lo p w h1
  by_cases h2 : 255 < p.ttl
  · have : p.goodB = false := by
      unfold Pkt.goodB
      rw [decide_eq_false (by omega)]
      simp
    rw [this]
    exact isPacket_hi p w h1 h2
  · have : p.goodB = (fitsB p.kind p.cnt && !(p.unk && p.dseq != 0) && p.forP.blankB) := by
      unfold Pkt.goodB
      rw [decide_eq_true (by omega)]
      simp
    rw [this]
    exact isPacket_mid p hp w h1 h2

end Go.Proofs.YtakaadcpaeiccabGreat

namespace Go.Proofs.YtakaadcpaeiccabGreat
open Go.RowKit

theorem info_u8 : (Tryz.prog.info? 5).map (fun i => (i.zero, i.size, i.bytes)) = some (some (.int .u8 0), 1, 1) := by kernel_rfl

/-- Four new bytes in a block of their own, as what is appended. -/
theorem src_b4 (w : World) (n : Int) :
    Src Tryz.prog 1 58 (.slice (some ⟨w.heap.size, 0, none⟩) 4 4) 4 (U (b4 n)) (w.alloc (.cells #[.int .u8 (n / 16777216), .int .u8 (n / 65536 % 256), .int .u8 (n / 256 % 256), .int .u8 (n % 256)] 5)) := by
  refine Src.ofSlice _ Tryz.underlying58 _ 4 4 _ rfl ?_ ?_
  · intro j u hj
    have hadd : (⟨w.heap.size, 0, none⟩ : Addr).add j = ⟨w.heap.size, j, none⟩ := by unfold Addr.add; split <;> simp_all
    rw [hadd, World.cell?_alloc_new w]
    rw [← hj]
    simp [U, b4]
  · intro u hu
    simp only [U, b4, List.map_cons, List.map_nil, List.mem_cons, List.not_mem_nil, or_false] at hu
    rcases hu with rfl | rfl | rfl | rfl <;> rfl

set_option maxHeartbeats 1000000 in
theorem appendNumber_any (base : Nat) (v : Value) (n : Int) (xs : List Int) (w : World) (h0 : 0 ≤ n) (h1 : n < 4294967296)
    (hown : w.ownsRow base 5 1 v xs.length (U xs)) (hv : v ≠ .slice none 0 0) (hb : base ≤ w.heap.size) (hlen : xs.length ≤ 1000000) :
    Calls Tryz.prog 57 #[v, .int .u32 n] w fun e w' => ∃ v', e = .returned v' ∧ w'.ownsRow base 5 1 v' (xs ++ b4 n).length (U (xs ++ b4 n)) ∧ w.grownBy w' v.ownBlock ∧ v' ≠ .slice none 0 0 := by
  obtain ⟨i0, hi, hz0, hz1, hz2⟩ := info_parts info_u8
  have hsrc := src_b4 w n
  go_enter Tryz.func57, Tryz.ntmps57
  go_wp2_with (at_builtin; refine wpList_append_own_src _ rfl _ _ 58 58 rfl base 5 i0 (.int .u8 0) 1 1 Tryz.underlying58 hi hz0 hz1 hz2 rfl v xs.length (U xs) rfl (hown.alloc _) hv _ 4 (U (b4 n)) rfl hsrc ?c1 ?c2 ?c3 ?_)
  case c1 => unfold maxLen; omega
  case c2 => omega
  case c3 => simp; omega
  intro v' w' hown' hgrow hv'
  go_wp2
  go_ret
  refine ⟨v', rfl, ?_, ?_, hv'⟩
  · rw [List.length_append, b4_length, ← U_append]
    exact hown'
  · have hg := World.grownBy_alloc w (.cells #[.int .u8 (n / 16777216), .int .u8 (n / 65536 % 256), .int .u8 (n / 256 % 256), .int .u8 (n % 256)] 5) v.ownBlock
    exact ⟨hgrow.os.trans hg.os, hgrow.tape.trans hg.tape, hgrow.output.trans hg.output, Nat.le_trans hg.size hgrow.size, fun k hk hne => (hgrow.block k (Nat.lt_of_lt_of_le hk hg.size) hne).trans (hg.block k hk hne)⟩
end Go.Proofs.YtakaadcpaeiccabGreat

namespace Go.Proofs.YtakaadcpaeiccabGreat
open Go.RowKit

/-- The numbers of a packet: where they stand in it, and what they are. -/
def Pkt.nums (p : Pkt) : List (Nat × Int) :=
  if p.kind = 1 then [(4, p.id), (5, p.dest), (6, p.dseq), (7, p.frm), (8, p.fseq)]
  else if p.kind = 2 then [(5, p.dest), (6, p.dseq), (7, p.frm), (9, p.life)]
  else if p.kind = 9 then [(4, p.id), (5, p.dest), (7, p.frm)]
  else []

def ptrs (B : Nat) (l : List (Nat × Int)) : Array Value := (l.map fun x => Value.pointer (some ⟨B, x.1, none⟩)).toArray

/-- The list of pointers that 'numbers' gives. -/
def Ptrs (B : Nat) (l : List (Nat × Int)) (ao : Option Addr) (base : Nat) (W : World) : Prop :=
  ∀ j, j < l.length → ∃ N, ao = some ⟨N, 0, none⟩ ∧ base ≤ N ∧ W.heap[N]? = some (.cells (ptrs B l) 189 (0, 0))

theorem numbers_any (p : Pkt) (B : Nat) (w : World) (hc : w.cell? ⟨B, 1, none⟩ = some (.int .i64 p.kind)) :
    Calls Tryz.prog 86 #[.pointer (some ⟨B, 0, none⟩)] w fun e w' => ∃ ao, e = .returned (.slice ao p.nums.length p.nums.length) ∧ Below w.heap.size w w' ∧ Ptrs B p.nums ao w.heap.size w' := by
  have hnew : ∀ o, (w.alloc o).drew.heap[w.heap.size]? = some o := fun o => heap_alloc_new w o
  by_cases h1 : p.kind = 1
  · rw [h1] at hc
    refine (numbers_1 B w hc).mono ?_
    rintro e w' ⟨rfl, rfl⟩
    simp only [Pkt.nums, h1, if_true]
    exact ⟨_, rfl, ((Below.refl _ _).alloc (Nat.le_refl _) _).drew, fun j _ => ⟨_, rfl, Nat.le_refl _, hnew _⟩⟩
  by_cases h2 : p.kind = 2
  · rw [h2] at hc
    refine (numbers_2 B w hc).mono ?_
    rintro e w' ⟨rfl, rfl⟩
    have : p.nums = [(5, p.dest), (6, p.dseq), (7, p.frm), (9, p.life)] := by simp [Pkt.nums, h2]
    rw [this]
    exact ⟨_, rfl, ((Below.refl _ _).alloc (Nat.le_refl _) _).drew, fun j _ => ⟨_, rfl, Nat.le_refl _, hnew _⟩⟩
  by_cases h9 : p.kind = 9
  · rw [h9] at hc
    refine (numbers_9 B w hc).mono ?_
    rintro e w' ⟨rfl, rfl⟩
    have : p.nums = [(4, p.id), (5, p.dest), (7, p.frm)] := by simp [Pkt.nums, h9]
    rw [this]
    exact ⟨_, rfl, ((Below.refl _ _).alloc (Nat.le_refl _) _).drew, fun j _ => ⟨_, rfl, Nat.le_refl _, hnew _⟩⟩
  · refine (numbers_0 B p.kind (by simpa using h1) (by simpa using h2) (by simpa using h9) w hc).mono ?_
    rintro e w' ⟨rfl, rfl⟩
    have : p.nums = [] := by simp [Pkt.nums, h1, h2, h9]
    rw [this]
    exact ⟨none, rfl, Below.refl _ _, fun j hj => absurd hj (by simp)⟩

theorem InB.below' {p : Pkt} {w W W1 : World} (h : InB p w W) (hb : Below (w.heap.size + 1) W W1) : InB p w W1 := by
  obtain ⟨c0, c1, c2, c3, c4, c5, c6, c7, c8, c9, c10, c11, hs, hB⟩ := h
  have k : ∀ i, W1.cell? ⟨w.heap.size, i, none⟩ = W.cell? ⟨w.heap.size, i, none⟩ := fun i => hb.cell (p := ⟨w.heap.size, i, none⟩) (Nat.lt_succ_self _)
  exact ⟨(k _).trans c0, (k _).trans c1, (k _).trans c2, (k _).trans c3, (k _).trans c4, (k _).trans c5, (k _).trans c6, (k _).trans c7, (k _).trans c8, (k _).trans c9, (k _).trans c10, (k _).trans c11,
    Nat.lt_of_lt_of_le hs hb.size, hB.trans (hb.mono (Nat.le_succ _))⟩

theorem nums_len (p : Pkt) : p.nums.length ≤ 5 := by
  unfold Pkt.nums
  split
  · simp
  split
  · simp
  split <;> simp

/-- The bytes of the first k numbers. -/
def Pkt.numB (p : Pkt) (k : Nat) : List Int := (p.nums.take k).flatMap fun x => b4 x.2
theorem numB_succ {p : Pkt} {k o : Nat} {x : Int} (h : p.nums[k]? = some (o, x)) : p.numB (k + 1) = p.numB k ++ b4 x := by
  unfold Pkt.numB
  rw [List.take_add_one, h]
  simp
theorem flat4_len (l : List (Nat × Int)) : (l.flatMap fun x => b4 x.2).length = 4 * l.length := by
  induction l with
  | nil => rfl
  | cons a l ih => simp only [List.flatMap_cons, List.length_append, ih, b4_length, List.length_cons]; omega
theorem numB_len (p : Pkt) (k : Nat) : (p.numB k).length ≤ 20 := by
  unfold Pkt.numB
  rw [flat4_len]
  have := nums_len p
  have := List.length_take_le k p.nums
  have := List.length_take_le' k p.nums
  omega

theorem InB.start0 (p : Pkt) (w : World) : InB p w (w.alloc p.box) :=
  ⟨World.cell?_alloc_new w _ _ _, World.cell?_alloc_new w _ _ _, World.cell?_alloc_new w _ _ _, World.cell?_alloc_new w _ _ _, World.cell?_alloc_new w _ _ _, World.cell?_alloc_new w _ _ _,
   World.cell?_alloc_new w _ _ _, World.cell?_alloc_new w _ _ _, World.cell?_alloc_new w _ _ _, World.cell?_alloc_new w _ _ _, World.cell?_alloc_new w _ _ _, World.cell?_alloc_new w _ _ _,
   by simp, (Below.refl _ _).alloc (Nat.le_refl _) _⟩
theorem InB.drew' {p : Pkt} {w W : World} (h : InB p w W) : InB p w W.drew := by
  obtain ⟨c0, c1, c2, c3, c4, c5, c6, c7, c8, c9, c10, c11, hs, hB⟩ := h
  exact ⟨c0, c1, c2, c3, c4, c5, c6, c7, c8, c9, c10, c11, hs, hB.drew⟩

theorem nums_cell {p : Pkt} {w W : World} (hp : p.Wf) (h : InB p w W) (k : Nat) (hk : k < p.nums.length) :
    ∃ o x, p.nums[k]? = some (o, x) ∧ W.cell? ⟨w.heap.size, o, none⟩ = some (.int .u32 x) ∧ 0 ≤ x ∧ x < 4294967296 := by
  obtain ⟨c0, c1, c2, c3, c4, c5, c6, c7, c8, c9, c10, c11, hs, hB⟩ := h
  obtain ⟨h1, h2, h3, h4, h5, h6, i0, i1, d0, d1, s0, s1, f0, f1, g0, g1, l0, l1, h19, h20⟩ := hp
  have hall : ∀ ox ∈ p.nums, W.cell? ⟨w.heap.size, ox.1, none⟩ = some (.int .u32 ox.2) ∧ 0 ≤ ox.2 ∧ ox.2 < 4294967296 := by
    unfold Pkt.nums
    split
    · simp [*]
    split
    · simp [*]
    split
    · simp [*]
    · simp
  have hm := hall _ (List.getElem_mem hk)
  exact ⟨_, _, List.getElem?_eq_getElem hk, hm.1, hm.2⟩

/-- What the two loops of Encode hold on to. -/
structure EncInv (p : Pkt) (w : World) (ao : Option Addr) (wr : World) (b : Value) (xs : List Int) : Prop where
  inb : InB p w wr
  own : wr.ownsRow (w.heap.size + 1) 5 1 b xs.length (U xs)
  nn : b ≠ .slice none 0 0
  ptr : Ptrs w.heap.size p.nums ao (w.heap.size + 1) wr

theorem EncInv.base {p : Pkt} {w : World} {ao : Option Addr} {wr : World} {b : Value} {xs : List Int} (h : EncInv p w ao wr b xs) : w.heap.size + 1 ≤ wr.heap.size := by
  obtain ⟨_, _, _, _, _, _, _, _, _, _, _, _, hs, _⟩ := h.inb
  omega

theorem other_row {W : World} {base : Nat} {b : Value} {n : Nat} {xs : List Value} (h : W.ownsRow base 5 1 b n xs) {N : Nat} {c : Array Value} {f : Nat × Nat}
    (hN : W.heap[N]? = some (.cells c 189 f)) : some N ≠ b.ownBlock := by
  intro he
  rcases h.2 with ⟨rfl, _⟩ | ⟨g, cap, cur, rfl, _, hg, _⟩
  · simp [Value.ownBlock] at he
  · simp [Value.ownBlock] at he
    subst he
    rw [hN] at hg
    simp at hg

theorem own_head (base : Nat) (w : World) (x0 x1 x2 x3 x4 : Int) (hb : base ≤ w.heap.size) :
    (w.alloc (.cells #[.int .u8 x0, .int .u8 x1, .int .u8 x2, .int .u8 x3, .int .u8 x4] 5)).ownsRow base 5 1 (.slice (some ⟨w.heap.size, 0, none⟩) 5 5) [x0, x1, x2, x3, x4].length (U [x0, x1, x2, x3, x4]) :=
  ⟨rfl, .inr ⟨w.heap.size, 5, _, rfl, hb, heap_alloc_new w _, Nat.le_refl _, by decide, rfl, rfl⟩⟩

theorem EncInv.step {p : Pkt} {w : World} {ao : Option Addr} {wr w1 : World} {b v' : Value} {xs ys : List Int} (h : EncInv p w ao wr b xs)
    (hg : wr.grownBy w1 b.ownBlock) (ho : w1.ownsRow (w.heap.size + 1) 5 1 v' ys.length (U ys)) (hv : v' ≠ .slice none 0 0) : EncInv p w ao w1 v' ys := by
  have hlt := h.own.lt
  have hb : Below (w.heap.size + 1) wr w1 := (Below.refl _ _).grown hg h.base fun k hk => (hlt k hk).1
  refine ⟨h.inb.below' hb, ho, hv, fun j hj => ?_⟩
  obtain ⟨N, h1, h2, h3⟩ := h.ptr j hj
  refine ⟨N, h1, h2, ?_⟩
  rw [hg.block N (Array.getElem?_eq_some_iff.1 h3).1 (other_row h.own h3)]
  exact h3

theorem EncInv.alloc {p : Pkt} {w : World} {ao : Option Addr} {wr : World} {b : Value} {xs : List Int} (h : EncInv p w ao wr b xs) (o : Obj) : EncInv p w ao (wr.alloc o) b xs := by
  refine ⟨h.inb.below' ((Below.refl _ _).alloc h.base _), h.own.alloc o, h.nn, fun j hj => ?_⟩
  obtain ⟨N, h1, h2, h3⟩ := h.ptr j hj
  refine ⟨N, h1, h2, ?_⟩
  rw [Below.heap_alloc wr o N (Array.getElem?_eq_some_iff.1 h3).1]
  exact h3

theorem EncInv.drew {p : Pkt} {w : World} {ao : Option Addr} {wr : World} {b : Value} {xs : List Int} (h : EncInv p w ao wr b xs) : EncInv p w ao wr.drew b xs := by
  obtain ⟨h1, h2, h3, h4⟩ := h
  obtain ⟨c0, c1, c2, c3, c4, c5, c6, c7, c8, c9, c10, c11, hs, hB⟩ := h1
  exact ⟨⟨c0, c1, c2, c3, c4, c5, c6, c7, c8, c9, c10, c11, hs, hB.drew⟩, h2.drew, h3, h4⟩

theorem EncInv.ptrCell {p : Pkt} {w : World} {ao : Option Addr} {wr : World} {b : Value} {xs : List Int} (h : EncInv p w ao wr b xs) (k : Nat) (hk : k < p.nums.length) {o : Nat} {x : Int} (hox : p.nums[k]? = some (o, x)) :
    ∃ N, ao = some ⟨N, 0, none⟩ ∧ wr.cell? ⟨N, k, none⟩ = some (.pointer (some ⟨w.heap.size, o, none⟩)) := by
  obtain ⟨N, h1, h2, h3⟩ := h.ptr k hk
  refine ⟨N, h1, ?_⟩
  rw [cell_of_row wr N k _ _ _ h3]
  simp [ptrs, hox]

/-- A text's bytes as numbers. -/
def strNums (s : ByteArray) : List Int := s.data.toList.map fun b => (b.toNat : Int)
theorem byteCells_U (s : ByteArray) : byteCells s = U (strNums s) := by simp [byteCells, U, strNums]
theorem strNums_length (s : ByteArray) : (strNums s).length = s.size := by simp [strNums]

/-- A block of two numbers: one that is lost. -/
@[reducible] def LBlk (n : Nat) (d s : Int) (W : World) : Prop :=
  W.heap[n]? = some (.cells #[.int .u32 d, .int .u32 s] 237 (0, 0)) ∧ W.cell? ⟨n, 0, none⟩ = some (.int .u32 d) ∧ W.cell? ⟨n, 1, none⟩ = some (.int .u32 s)
theorem LBlk.start (w : World) (d s : Int) : LBlk w.heap.size d s (w.alloc (.cells #[.int .u32 d, .int .u32 s] 237)).drew :=
  ⟨heap_alloc_new w _, World.cell?_alloc_new w _ _ _, World.cell?_alloc_new w _ _ _⟩
theorem LBlk.grown {n : Nat} {d s : Int} {W W1 : World} {base : Nat} {b : Value} {m : Nat} {xs : List Value} (h : LBlk n d s W) (ho : W.ownsRow base 5 1 b m xs) (hg : W.grownBy W1 b.ownBlock) : LBlk n d s W1 := by
  obtain ⟨h1, h2, h3⟩ := h
  have hne : some n ≠ b.ownBlock := by
    intro he
    rcases ho.2 with ⟨rfl, _⟩ | ⟨g, cap, cur, rfl, _, hg, _⟩
    · simp [Value.ownBlock] at he
    · simp [Value.ownBlock] at he
      subst he
      rw [h1] at hg
      simp at hg
  exact ⟨(hg.block n (Array.getElem?_eq_some_iff.1 h1).1 hne).trans h1, hg.cell h2 hne, hg.cell h3 hne⟩

/-- The bytes of the first k that are lost. -/
def lostB (L : List (Int × Int)) (k : Nat) : List Int := (L.take k).flatMap fun x => b4 x.1 ++ b4 x.2
theorem lostB_succ {L : List (Int × Int)} {k : Nat} {d s : Int} (h : L[k]? = some (d, s)) : lostB L (k + 1) = lostB L k ++ b4 d ++ b4 s := by
  unfold lostB
  rw [List.take_add_one, h]
  simp
theorem flat8_len (l : List (Int × Int)) : (l.flatMap fun x => b4 x.1 ++ b4 x.2).length = 8 * l.length := by
  induction l with
  | nil => rfl
  | cons a l ih => simp only [List.flatMap_cons, List.length_append, ih, b4_length, List.length_cons]; omega
theorem lostB_len (L : List (Int × Int)) (k : Nat) : (lostB L k).length ≤ 8 * L.length := by
  unfold lostB
  rw [flat8_len]
  have := List.length_take_le' k L
  omega

theorem U_set (ys : List Int) (j : Nat) (x : Int) : U (ys.set j x) = (U ys).set j (.int .u8 x) := by simp [U, List.map_set]

theorem row_shape {W : World} {base e size : Nat} {v : Value} {n : Nat} {xs : List Value} (h : W.ownsRow base e size v n xs) (hv : v ≠ .slice none 0 0) :
    ∃ g cap, v = .slice (some ⟨g, 0, none⟩) n cap ∧ base ≤ g := by
  rcases h.2 with ⟨rfl, _⟩ | ⟨g, cap, cur, rfl, hb, _⟩
  · exact absurd rfl hv
  · exact ⟨g, cap, rfl, hb⟩
end Go.Proofs.YtakaadcpaeiccabGreat
