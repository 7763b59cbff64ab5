import Derived.Test.YtakaadcpaeiccabGreatC03
import Derived.Deep.QuietTactic
import Derived.BigQuiet
import Derived.Test.YtakaadcpaeiccabGreatC02
import Derived.Recover
import Derived.Defers
import Derived.Lib.EndianBits
namespace Go.Proofs.YtakaadcpaeiccabGreat
open Go.RowKit

/-- The packet's box, as it lies behind the world w. -/
@[reducible] def InB (p : Pkt) (w W : World) : Prop :=
  W.cell? ⟨w.heap.size, 0, none⟩ = some (.int .i64 p.ttl) ∧ W.cell? ⟨w.heap.size, 1, none⟩ = some (.int .i64 p.kind) ∧ W.cell? ⟨w.heap.size, 2, none⟩ = some (.int .i64 p.hops) ∧
  W.cell? ⟨w.heap.size, 3, none⟩ = some (.bool p.unk) ∧ W.cell? ⟨w.heap.size, 4, none⟩ = some (.int .u32 p.id) ∧ W.cell? ⟨w.heap.size, 5, none⟩ = some (.int .u32 p.dest) ∧
  W.cell? ⟨w.heap.size, 6, none⟩ = some (.int .u32 p.dseq) ∧ W.cell? ⟨w.heap.size, 7, none⟩ = some (.int .u32 p.frm) ∧ W.cell? ⟨w.heap.size, 8, none⟩ = some (.int .u32 p.fseq) ∧
  W.cell? ⟨w.heap.size, 9, none⟩ = some (.int .u32 p.life) ∧ W.cell? ⟨w.heap.size, 10, none⟩ = some (.slice p.la p.ln p.lc) ∧ W.cell? ⟨w.heap.size, 11, none⟩ = some (.string p.pay) ∧
  w.heap.size < W.heap.size ∧ Below w.heap.size w W

theorem InB.start (p : Pkt) (w : World) : InB p w (w.alloc p.box).drew :=
  ⟨World.cell?_alloc_new w _ _ _, World.cell?_alloc_new w _ _ _, World.cell?_alloc_new w _ _ _, World.cell?_alloc_new w _ _ _, World.cell?_alloc_new w _ _ _, World.cell?_alloc_new w _ _ _,
   World.cell?_alloc_new w _ _ _, World.cell?_alloc_new w _ _ _, World.cell?_alloc_new w _ _ _, World.cell?_alloc_new w _ _ _, World.cell?_alloc_new w _ _ _, World.cell?_alloc_new w _ _ _,
   by simp, ((Below.refl _ _).alloc (Nat.le_refl _) _).drew⟩

theorem InB.below {p : Pkt} {w W W1 : World} (h : InB p w W) (hb : Below W.heap.size W W1) : InB p w W1 := by
  obtain ⟨c0, c1, c2, c3, c4, c5, c6, c7, c8, c9, c10, c11, hs, hB⟩ := h
  have k : ∀ i, W1.cell? ⟨w.heap.size, i, none⟩ = W.cell? ⟨w.heap.size, i, none⟩ := fun i => hb.cell (p := ⟨w.heap.size, i, none⟩) hs
  exact ⟨(k _).trans c0, (k _).trans c1, (k _).trans c2, (k _).trans c3, (k _).trans c4, (k _).trans c5, (k _).trans c6, (k _).trans c7, (k _).trans c8, (k _).trans c9, (k _).trans c10, (k _).trans c11,
    Nat.lt_of_lt_of_le hs hb.size, hB.trans (hb.mono (Nat.le_of_lt hs))⟩

theorem below_then2 {B : Nat} {w w1 w2 w3 : World} (h : Below B w w1) (hs : B < w1.heap.size) (h2 : Below w1.heap.size w1 w2) (h3 : Below w2.heap.size w2 w3) : Below B w w3 :=
  (h.trans (h2.mono (Nat.le_of_lt hs))).trans (h3.mono (Nat.le_trans (Nat.le_of_lt hs) h2.size))

def Pkt.goodB (p : Pkt) : Bool :=
  decide (1 ≤ p.ttl ∧ p.ttl ≤ 255) && fitsB p.kind p.cnt && !(p.unk && p.dseq != 0) && p.forP.blankB

theorem Pkt.Wf.forP {p : Pkt} (h : p.Wf) : p.forP.Wf := by
  obtain ⟨h1, h2, h3, h4, h5, h6, h7, h8, h9, h10, h11, h12, h13, h14, h15, h16, h17, h18, h19, h20⟩ := h
  unfold Pkt.forP
  split
  · constructor <;> (dsimp only; omega)
  split
  · constructor <;> (dsimp only; omega)
  split
  · constructor <;> (dsimp only; omega)
  split
  · constructor <;> (first | (dsimp only; omega) | (simp [ByteArray.size]))
  · constructor <;> assumption

set_option maxHeartbeats 1000000 in
theorem isPacket_lo (p : Pkt) (w : World) (ht : p.ttl < 1) :
    Calls Tryz.prog 90 #[p.val] w fun e w' => e = .returned (.bool false) ∧ Below w.heap.size w w' := by
  have d1 : decide (p.ttl < 1) = true := by simpa using ht
  go_enter Tryz.func90, Tryz.ntmps90
  go_wp2
  go_quiet (fail)
  all_goals go_wp2
  all_goals (go_ret; go_light; refine ⟨rfl, below_drewN ?_ _⟩; go_grown)

set_option maxHeartbeats 1000000 in
theorem isPacket_hi (p : Pkt) (w : World) (ht : ¬ p.ttl < 1) (ht2 : 255 < p.ttl) :
    Calls Tryz.prog 90 #[p.val] w fun e w' => e = .returned (.bool false) ∧ Below w.heap.size w w' := by
  have d1 : decide (p.ttl < 1) = false := by simpa using ht
  have d2 : decide (255 < p.ttl) = true := by simpa using ht2
  go_enter Tryz.func90, Tryz.ntmps90
  go_wp2
  go_quiet (fail)
  all_goals go_wp2
  all_goals (go_ret; go_light; refine ⟨rfl, below_drewN ?_ _⟩; go_grown)

set_option maxHeartbeats 1000000 in
theorem isPacket_mid (p : Pkt) (hp : p.Wf) (w : World) (ht : ¬ p.ttl < 1) (ht2 : ¬ 255 < p.ttl) :
    Calls Tryz.prog 90 #[p.val] w fun e w' => e = .returned (.bool (fitsB p.kind p.cnt && !(p.unk && p.dseq != 0) && p.forP.blankB)) ∧ Below w.heap.size w w' := by
  have d1 : decide (p.ttl < 1) = false := by simpa using ht
  have d2 : decide (255 < p.ttl) = false := by simpa using ht2
  go_enter Tryz.func90, Tryz.ntmps90
  go_wp2
  go_region_held3 (InB p w) (first | exact InB.start p w | assumption | exact InB.below (by assumption) (by assumption)) (first
    | (go_at_call 126; refine (count_any p _).mono ?_; rintro e w1 ⟨rfl, hb1⟩)
    | (go_at_call 125; refine (fits_any _ _ _).mono ?_; rintro e w1 ⟨rfl, rfl⟩))
  obtain ⟨c0, c1, c2, c3, c4, c5, c6, c7, c8, c9, c10, c11, hs, hB⟩ : InB p w _ := by assumption
  clear hb1
  have hf := hp.forP
  have hz : p.forP.Wf := hf
  obtain ⟨ttl, kind, hops, unk, id, dest, dseq, frm, fseq, life, la, ln, lc, pay⟩ := p
  cases unk
  all_goals (try dsimp only at c0 c1 c2 c3 c4 c5 c6 c7 c8 c9 c10 c11)
  · go_wp2_with (first
      | (go_at_call 128; refine (foreign_any ⟨ttl, kind, hops, false, id, dest, dseq, frm, fseq, life, la, ln, lc, pay⟩ _).mono ?_; rintro e w2 ⟨rfl, hb2⟩)
      | (go_at_call 127; refine (isBlank_any _ hz _).mono ?_; rintro e w3 ⟨rfl, hb3⟩))
    all_goals (go_ret; go_light; refine ⟨ret_bool ?_, ?_⟩)
    all_goals first | (simp_all; done) | exact hB | exact below_then2 hB hs hb2 hb3
  · go_wp2_with (first
      | (go_at_call 128; refine (foreign_any ⟨ttl, kind, hops, true, id, dest, dseq, frm, fseq, life, la, ln, lc, pay⟩ _).mono ?_; rintro e w2 ⟨rfl, hb2⟩)
      | (go_at_call 127; refine (isBlank_any _ hz _).mono ?_; rintro e w3 ⟨rfl, hb3⟩))
    all_goals (go_ret; go_light; refine ⟨ret_bool ?_, ?_⟩)
    all_goals first | (simp_all; done) | exact hB | exact below_then2 hB hs hb2 hb3

theorem isPacket_any (p : Pkt) (hp : p.Wf) (w : World) :
    Calls Tryz.prog 90 #[p.val] w fun e w' => e = .returned (.bool p.goodB) ∧ Below w.heap.size w w' := by
  by_cases h1 : p.ttl < 1
  · have : p.goodB = false := by
      unfold Pkt.goodB
      rw [decide_eq_false (by omega)]
      simp
    rw [this]
    exact isPacket_lo p w h1
  by_cases h2 : 255 < p.ttl
  · have : p.goodB = false := by
      unfold Pkt.goodB
      rw [decide_eq_false (by omega)]
      simp
    rw [this]
    exact isPacket_hi p w h1 h2
  · have : p.goodB = (fitsB p.kind p.cnt && !(p.unk && p.dseq != 0) && p.forP.blankB) := by
      unfold Pkt.goodB
      rw [decide_eq_true (by omega)]
      simp
    rw [this]
    exact isPacket_mid p hp w h1 h2

end Go.Proofs.YtakaadcpaeiccabGreat

namespace Go.Proofs.YtakaadcpaeiccabGreat
open Go.RowKit

theorem info_u8 : (Tryz.prog.info? 5).map (fun i => (i.zero, i.size, i.bytes)) = some (some (.int .u8 0), 1, 1) := by kernel_rfl

/-- Four new bytes in a block of their own, as what is appended. -/
theorem src_b4 (w : World) (n : Int) :
    Src Tryz.prog 1 58 (.slice (some ⟨w.heap.size, 0, none⟩) 4 4) 4 (U (b4 n)) (w.alloc (.cells #[.int .u8 (n / 16777216), .int .u8 (n / 65536 % 256), .int .u8 (n / 256 % 256), .int .u8 (n % 256)] 5)) := by
  refine Src.ofSlice _ Tryz.underlying58 _ 4 4 _ rfl ?_ ?_
  · intro j u hj
    have hadd : (⟨w.heap.size, 0, none⟩ : Addr).add j = ⟨w.heap.size, j, none⟩ := by unfold Addr.add; split <;> simp_all
    rw [hadd, World.cell?_alloc_new w]
    rw [← hj]
    simp [U, b4]
  · intro u hu
    simp only [U, b4, List.map_cons, List.map_nil, List.mem_cons, List.not_mem_nil, or_false] at hu
    rcases hu with rfl | rfl | rfl | rfl <;> rfl

set_option maxHeartbeats 1000000 in
theorem appendNumber_any (base : Nat) (v : Value) (n : Int) (xs : List Int) (w : World) (h0 : 0 ≤ n) (h1 : n < 4294967296)
    (hown : w.ownsRow base 5 1 v xs.length (U xs)) (hv : v ≠ .slice none 0 0) (hb : base ≤ w.heap.size) (hlen : xs.length ≤ 1000000) :
    Calls Tryz.prog 57 #[v, .int .u32 n] w fun e w' => ∃ v', e = .returned v' ∧ w'.ownsRow base 5 1 v' (xs ++ b4 n).length (U (xs ++ b4 n)) ∧ w.grownBy w' v.ownBlock ∧ v' ≠ .slice none 0 0 := by
  obtain ⟨i0, hi, hz0, hz1, hz2⟩ := info_parts info_u8
  have hsrc := src_b4 w n
  go_enter Tryz.func57, Tryz.ntmps57
  go_wp2_with (at_builtin; refine wpList_append_own_src _ rfl _ _ 58 58 rfl base 5 i0 (.int .u8 0) 1 1 Tryz.underlying58 hi hz0 hz1 hz2 rfl v xs.length (U xs) rfl (hown.alloc _) hv _ 4 (U (b4 n)) rfl hsrc ?c1 ?c2 ?c3 ?_)
  case c1 => unfold maxLen; omega
  case c2 => omega
  case c3 => simp; omega
  intro v' w' hown' hgrow hv'
  go_wp2
  go_ret
  refine ⟨v', rfl, ?_, ?_, hv'⟩
  · rw [List.length_append, b4_length, ← U_append]
    exact hown'
  · have hg := World.grownBy_alloc w (.cells #[.int .u8 (n / 16777216), .int .u8 (n / 65536 % 256), .int .u8 (n / 256 % 256), .int .u8 (n % 256)] 5) v.ownBlock
    exact ⟨hgrow.os.trans hg.os, hgrow.tape.trans hg.tape, hgrow.output.trans hg.output, Nat.le_trans hg.size hgrow.size, fun k hk hne => (hgrow.block k (Nat.lt_of_lt_of_le hk hg.size) hne).trans (hg.block k hk hne)⟩
end Go.Proofs.YtakaadcpaeiccabGreat

namespace Go.Proofs.YtakaadcpaeiccabGreat.Crc

/-- One bit of the sum's shift. -/
def g (c : Nat) : Nat := if c % 2 = 1 then (c / 2) ^^^ 3988292384 else c / 2
def gs : Nat → Nat → Nat
  | 0, c => c
  | k + 1, c => g (gs k c)
/-- A number of the table. -/
def tab (i : Nat) : Nat := gs 8 i
/-- One byte of the sum. -/
def step (s x : Nat) : Nat := tab ((s % 256) ^^^ x) ^^^ (s / 256)
def run : List Nat → Nat → Nat
  | [], s => s
  | x :: r, s => run r (step s x)

theorem xor_lt {a b : Nat} (ha : a < 4294967296) (hb : b < 4294967296) : a ^^^ b < 4294967296 := Nat.xor_lt_two_pow (n := 32) ha hb
theorem g_lt {c : Nat} (h : c < 4294967296) : g c < 4294967296 := by
  unfold g
  split
  · exact xor_lt (by omega) (by omega)
  · omega
theorem gs_lt {c : Nat} (h : c < 4294967296) : ∀ k, gs k c < 4294967296
  | 0 => h
  | k + 1 => g_lt (gs_lt h k)
theorem tab_lt {i : Nat} (h : i < 4294967296) : tab i < 4294967296 := gs_lt h 8
theorem xor_byte {a b : Nat} (ha : a < 256) (hb : b < 256) : a ^^^ b < 256 := Nat.xor_lt_two_pow (n := 8) ha hb
theorem step_lt {s x : Nat} (hs : s < 4294967296) (hx : x < 256) : step s x < 4294967296 := by
  unfold step
  have := xor_byte (Nat.mod_lt s (by decide : 0 < 256)) hx
  exact xor_lt (tab_lt (by omega)) (by omega)
theorem run_lt : ∀ (l : List Nat) {s : Nat}, s < 4294967296 → (∀ x ∈ l, x < 256) → run l s < 4294967296
  | [], _, h, _ => h
  | x :: r, _, h, hx => run_lt r (step_lt h (hx x (by simp))) (fun y hy => hx y (by simp [hy]))
theorem run_append : ∀ (a b : List Nat) (s : Nat), run (a ++ b) s = run b (run a s)
  | [], _, _ => rfl
  | x :: a, b, s => run_append a b (step s x)

end Go.Proofs.YtakaadcpaeiccabGreat.Crc

namespace Go.Proofs.YtakaadcpaeiccabGreat
open Go.RowKit

/-- The numbers of a packet: where they stand in it, and what they are. -/
def Pkt.nums (p : Pkt) : List (Nat × Int) :=
  if p.kind = 1 then [(4, p.id), (5, p.dest), (6, p.dseq), (7, p.frm), (8, p.fseq)]
  else if p.kind = 2 then [(5, p.dest), (6, p.dseq), (7, p.frm), (9, p.life)]
  else if p.kind = 9 then [(4, p.id), (5, p.dest), (7, p.frm)]
  else []

def ptrs (B : Nat) (l : List (Nat × Int)) : Array Value := (l.map fun x => Value.pointer (some ⟨B, x.1, none⟩)).toArray

/-- The list of pointers that 'numbers' gives. -/
def Ptrs (B : Nat) (l : List (Nat × Int)) (ao : Option Addr) (base : Nat) (W : World) : Prop :=
  ∀ j, j < l.length → ∃ N, ao = some ⟨N, 0, none⟩ ∧ base ≤ N ∧ W.heap[N]? = some (.cells (ptrs B l) 189 (0, 0))

theorem numbers_any (p : Pkt) (B : Nat) (w : World) (hc : w.cell? ⟨B, 1, none⟩ = some (.int .i64 p.kind)) :
    Calls Tryz.prog 86 #[.pointer (some ⟨B, 0, none⟩)] w fun e w' => ∃ ao, e = .returned (.slice ao p.nums.length p.nums.length) ∧ Below w.heap.size w w' ∧ Ptrs B p.nums ao w.heap.size w' := by
  have hnew : ∀ o, (w.alloc o).drew.heap[w.heap.size]? = some o := fun o => heap_alloc_new w o
  by_cases h1 : p.kind = 1
  · rw [h1] at hc
    refine (numbers_1 B w hc).mono ?_
    rintro e w' ⟨rfl, rfl⟩
    simp only [Pkt.nums, h1, if_true]
    exact ⟨_, rfl, ((Below.refl _ _).alloc (Nat.le_refl _) _).drew, fun j _ => ⟨_, rfl, Nat.le_refl _, hnew _⟩⟩
  by_cases h2 : p.kind = 2
  · rw [h2] at hc
    refine (numbers_2 B w hc).mono ?_
    rintro e w' ⟨rfl, rfl⟩
    have : p.nums = [(5, p.dest), (6, p.dseq), (7, p.frm), (9, p.life)] := by simp [Pkt.nums, h2]
    rw [this]
    exact ⟨_, rfl, ((Below.refl _ _).alloc (Nat.le_refl _) _).drew, fun j _ => ⟨_, rfl, Nat.le_refl _, hnew _⟩⟩
  by_cases h9 : p.kind = 9
  · rw [h9] at hc
    refine (numbers_9 B w hc).mono ?_
    rintro e w' ⟨rfl, rfl⟩
    have : p.nums = [(4, p.id), (5, p.dest), (7, p.frm)] := by simp [Pkt.nums, h9]
    rw [this]
    exact ⟨_, rfl, ((Below.refl _ _).alloc (Nat.le_refl _) _).drew, fun j _ => ⟨_, rfl, Nat.le_refl _, hnew _⟩⟩
  · refine (numbers_0 B p.kind (by simpa using h1) (by simpa using h2) (by simpa using h9) w hc).mono ?_
    rintro e w' ⟨rfl, rfl⟩
    have : p.nums = [] := by simp [Pkt.nums, h1, h2, h9]
    rw [this]
    exact ⟨none, rfl, Below.refl _ _, fun j hj => absurd hj (by simp)⟩

theorem InB.below' {p : Pkt} {w W W1 : World} (h : InB p w W) (hb : Below (w.heap.size + 1) W W1) : InB p w W1 := by
  obtain ⟨c0, c1, c2, c3, c4, c5, c6, c7, c8, c9, c10, c11, hs, hB⟩ := h
  have k : ∀ i, W1.cell? ⟨w.heap.size, i, none⟩ = W.cell? ⟨w.heap.size, i, none⟩ := fun i => hb.cell (p := ⟨w.heap.size, i, none⟩) (Nat.lt_succ_self _)
  exact ⟨(k _).trans c0, (k _).trans c1, (k _).trans c2, (k _).trans c3, (k _).trans c4, (k _).trans c5, (k _).trans c6, (k _).trans c7, (k _).trans c8, (k _).trans c9, (k _).trans c10, (k _).trans c11,
    Nat.lt_of_lt_of_le hs hb.size, hB.trans (hb.mono (Nat.le_succ _))⟩

theorem nums_len (p : Pkt) : p.nums.length ≤ 5 := by
  unfold Pkt.nums
  split
  · simp
  split
  · simp
  split <;> simp

/-- The bytes of the first k numbers. -/
def Pkt.numB (p : Pkt) (k : Nat) : List Int := (p.nums.take k).flatMap fun x => b4 x.2
theorem numB_succ {p : Pkt} {k o : Nat} {x : Int} (h : p.nums[k]? = some (o, x)) : p.numB (k + 1) = p.numB k ++ b4 x := by
  unfold Pkt.numB
  rw [List.take_add_one, h]
  simp
theorem flat4_len (l : List (Nat × Int)) : (l.flatMap fun x => b4 x.2).length = 4 * l.length := by
  induction l with
  | nil => rfl
  | cons a l ih => simp only [List.flatMap_cons, List.length_append, ih, b4_length, List.length_cons]; omega
theorem numB_len (p : Pkt) (k : Nat) : (p.numB k).length ≤ 20 := by
  unfold Pkt.numB
  rw [flat4_len]
  have := nums_len p
  have := List.length_take_le k p.nums
  have := List.length_take_le' k p.nums
  omega

theorem InB.start0 (p : Pkt) (w : World) : InB p w (w.alloc p.box) :=
  ⟨World.cell?_alloc_new w _ _ _, World.cell?_alloc_new w _ _ _, World.cell?_alloc_new w _ _ _, World.cell?_alloc_new w _ _ _, World.cell?_alloc_new w _ _ _, World.cell?_alloc_new w _ _ _,
   World.cell?_alloc_new w _ _ _, World.cell?_alloc_new w _ _ _, World.cell?_alloc_new w _ _ _, World.cell?_alloc_new w _ _ _, World.cell?_alloc_new w _ _ _, World.cell?_alloc_new w _ _ _,
   by simp, (Below.refl _ _).alloc (Nat.le_refl _) _⟩
theorem InB.drew' {p : Pkt} {w W : World} (h : InB p w W) : InB p w W.drew := by
  obtain ⟨c0, c1, c2, c3, c4, c5, c6, c7, c8, c9, c10, c11, hs, hB⟩ := h
  exact ⟨c0, c1, c2, c3, c4, c5, c6, c7, c8, c9, c10, c11, hs, hB.drew⟩

theorem nums_cell {p : Pkt} {w W : World} (hp : p.Wf) (h : InB p w W) (k : Nat) (hk : k < p.nums.length) :
    ∃ o x, p.nums[k]? = some (o, x) ∧ W.cell? ⟨w.heap.size, o, none⟩ = some (.int .u32 x) ∧ 0 ≤ x ∧ x < 4294967296 := by
  obtain ⟨c0, c1, c2, c3, c4, c5, c6, c7, c8, c9, c10, c11, hs, hB⟩ := h
  obtain ⟨h1, h2, h3, h4, h5, h6, i0, i1, d0, d1, s0, s1, f0, f1, g0, g1, l0, l1, h19, h20⟩ := hp
  have hall : ∀ ox ∈ p.nums, W.cell? ⟨w.heap.size, ox.1, none⟩ = some (.int .u32 ox.2) ∧ 0 ≤ ox.2 ∧ ox.2 < 4294967296 := by
    unfold Pkt.nums
    split
    · simp [*]
    split
    · simp [*]
    split
    · simp [*]
    · simp
  have hm := hall _ (List.getElem_mem hk)
  exact ⟨_, _, List.getElem?_eq_getElem hk, hm.1, hm.2⟩

/-- What the two loops of Encode hold on to. -/
structure EncInv (p : Pkt) (w : World) (ao : Option Addr) (wr : World) (b : Value) (xs : List Int) : Prop where
  inb : InB p w wr
  own : wr.ownsRow (w.heap.size + 1) 5 1 b xs.length (U xs)
  nn : b ≠ .slice none 0 0
  ptr : Ptrs w.heap.size p.nums ao (w.heap.size + 1) wr

theorem EncInv.base {p : Pkt} {w : World} {ao : Option Addr} {wr : World} {b : Value} {xs : List Int} (h : EncInv p w ao wr b xs) : w.heap.size + 1 ≤ wr.heap.size := by
  obtain ⟨_, _, _, _, _, _, _, _, _, _, _, _, hs, _⟩ := h.inb
  omega

theorem other_row {W : World} {base : Nat} {b : Value} {n : Nat} {xs : List Value} (h : W.ownsRow base 5 1 b n xs) {N : Nat} {c : Array Value} {f : Nat × Nat}
    (hN : W.heap[N]? = some (.cells c 189 f)) : some N ≠ b.ownBlock := by
  intro he
  rcases h.2 with ⟨rfl, _⟩ | ⟨g, cap, cur, rfl, _, hg, _⟩
  · simp [Value.ownBlock] at he
  · simp [Value.ownBlock] at he
    subst he
    rw [hN] at hg
    simp at hg

theorem own_head (base : Nat) (w : World) (x0 x1 x2 x3 x4 : Int) (hb : base ≤ w.heap.size) :
    (w.alloc (.cells #[.int .u8 x0, .int .u8 x1, .int .u8 x2, .int .u8 x3, .int .u8 x4] 5)).ownsRow base 5 1 (.slice (some ⟨w.heap.size, 0, none⟩) 5 5) [x0, x1, x2, x3, x4].length (U [x0, x1, x2, x3, x4]) :=
  ⟨rfl, .inr ⟨w.heap.size, 5, _, rfl, hb, heap_alloc_new w _, Nat.le_refl _, by decide, rfl, rfl⟩⟩

theorem EncInv.step {p : Pkt} {w : World} {ao : Option Addr} {wr w1 : World} {b v' : Value} {xs ys : List Int} (h : EncInv p w ao wr b xs)
    (hg : wr.grownBy w1 b.ownBlock) (ho : w1.ownsRow (w.heap.size + 1) 5 1 v' ys.length (U ys)) (hv : v' ≠ .slice none 0 0) : EncInv p w ao w1 v' ys := by
  have hlt := h.own.lt
  have hb : Below (w.heap.size + 1) wr w1 := (Below.refl _ _).grown hg h.base fun k hk => (hlt k hk).1
  refine ⟨h.inb.below' hb, ho, hv, fun j hj => ?_⟩
  obtain ⟨N, h1, h2, h3⟩ := h.ptr j hj
  refine ⟨N, h1, h2, ?_⟩
  rw [hg.block N (Array.getElem?_eq_some_iff.1 h3).1 (other_row h.own h3)]
  exact h3

theorem EncInv.alloc {p : Pkt} {w : World} {ao : Option Addr} {wr : World} {b : Value} {xs : List Int} (h : EncInv p w ao wr b xs) (o : Obj) : EncInv p w ao (wr.alloc o) b xs := by
  refine ⟨h.inb.below' ((Below.refl _ _).alloc h.base _), h.own.alloc o, h.nn, fun j hj => ?_⟩
  obtain ⟨N, h1, h2, h3⟩ := h.ptr j hj
  refine ⟨N, h1, h2, ?_⟩
  rw [Below.heap_alloc wr o N (Array.getElem?_eq_some_iff.1 h3).1]
  exact h3

theorem EncInv.drew {p : Pkt} {w : World} {ao : Option Addr} {wr : World} {b : Value} {xs : List Int} (h : EncInv p w ao wr b xs) : EncInv p w ao wr.drew b xs := by
  obtain ⟨h1, h2, h3, h4⟩ := h
  obtain ⟨c0, c1, c2, c3, c4, c5, c6, c7, c8, c9, c10, c11, hs, hB⟩ := h1
  exact ⟨⟨c0, c1, c2, c3, c4, c5, c6, c7, c8, c9, c10, c11, hs, hB.drew⟩, h2.drew, h3, h4⟩

theorem EncInv.ptrCell {p : Pkt} {w : World} {ao : Option Addr} {wr : World} {b : Value} {xs : List Int} (h : EncInv p w ao wr b xs) (k : Nat) (hk : k < p.nums.length) {o : Nat} {x : Int} (hox : p.nums[k]? = some (o, x)) :
    ∃ N, ao = some ⟨N, 0, none⟩ ∧ wr.cell? ⟨N, k, none⟩ = some (.pointer (some ⟨w.heap.size, o, none⟩)) := by
  obtain ⟨N, h1, h2, h3⟩ := h.ptr k hk
  refine ⟨N, h1, ?_⟩
  rw [cell_of_row wr N k _ _ _ h3]
  simp [ptrs, hox]

/-- A text's bytes as numbers. -/
def strNums (s : ByteArray) : List Int := s.data.toList.map fun b => (b.toNat : Int)
theorem byteCells_U (s : ByteArray) : byteCells s = U (strNums s) := by simp [byteCells, U, strNums]
theorem strNums_length (s : ByteArray) : (strNums s).length = s.size := by simp [strNums]

/-- A block of two numbers: one that is lost. -/
@[reducible] def LBlk (n : Nat) (d s : Int) (W : World) : Prop :=
  W.heap[n]? = some (.cells #[.int .u32 d, .int .u32 s] 237 (0, 0)) ∧ W.cell? ⟨n, 0, none⟩ = some (.int .u32 d) ∧ W.cell? ⟨n, 1, none⟩ = some (.int .u32 s)
theorem LBlk.start (w : World) (d s : Int) : LBlk w.heap.size d s (w.alloc (.cells #[.int .u32 d, .int .u32 s] 237)).drew :=
  ⟨heap_alloc_new w _, World.cell?_alloc_new w _ _ _, World.cell?_alloc_new w _ _ _⟩
theorem LBlk.grown {n : Nat} {d s : Int} {W W1 : World} {base : Nat} {b : Value} {m : Nat} {xs : List Value} (h : LBlk n d s W) (ho : W.ownsRow base 5 1 b m xs) (hg : W.grownBy W1 b.ownBlock) : LBlk n d s W1 := by
  obtain ⟨h1, h2, h3⟩ := h
  have hne : some n ≠ b.ownBlock := by
    intro he
    rcases ho.2 with ⟨rfl, _⟩ | ⟨g, cap, cur, rfl, _, hg, _⟩
    · simp [Value.ownBlock] at he
    · simp [Value.ownBlock] at he
      subst he
      rw [h1] at hg
      simp at hg
  exact ⟨(hg.block n (Array.getElem?_eq_some_iff.1 h1).1 hne).trans h1, hg.cell h2 hne, hg.cell h3 hne⟩

/-- The bytes of the first k that are lost. -/
def lostB (L : List (Int × Int)) (k : Nat) : List Int := (L.take k).flatMap fun x => b4 x.1 ++ b4 x.2
theorem lostB_succ {L : List (Int × Int)} {k : Nat} {d s : Int} (h : L[k]? = some (d, s)) : lostB L (k + 1) = lostB L k ++ b4 d ++ b4 s := by
  unfold lostB
  rw [List.take_add_one, h]
  simp
theorem flat8_len (l : List (Int × Int)) : (l.flatMap fun x => b4 x.1 ++ b4 x.2).length = 8 * l.length := by
  induction l with
  | nil => rfl
  | cons a l ih => simp only [List.flatMap_cons, List.length_append, ih, b4_length, List.length_cons]; omega
theorem lostB_len (L : List (Int × Int)) (k : Nat) : (lostB L k).length ≤ 8 * L.length := by
  unfold lostB
  rw [flat8_len]
  have := List.length_take_le' k L
  omega

theorem row_shape {W : World} {base e size : Nat} {v : Value} {n : Nat} {xs : List Value} (h : W.ownsRow base e size v n xs) (hv : v ≠ .slice none 0 0) :
    ∃ g cap, v = .slice (some ⟨g, 0, none⟩) n cap ∧ base ≤ g := by
  rcases h.2 with ⟨rfl, _⟩ | ⟨g, cap, cur, rfl, hb, _⟩
  · exact absurd rfl hv
  · exact ⟨g, cap, rfl, hb⟩
end Go.Proofs.YtakaadcpaeiccabGreat

namespace Go.Proofs.YtakaadcpaeiccabGreat
open Go.RowKit

/-- What a broken frame panics with. -/
@[reducible] def broken : List PanicEntry := [{ v := .iface 47 (.int .i64 1), recovered := false }]

theorem require_ok (w : World) : Calls Tryz.prog 85 #[.bool true] w fun e w' => e = .returned (.tuple #[]) ∧ w' = w := by
  go_enter Tryz.func85, Tryz.ntmps85
  go_wp2
  go_returns
  exact ⟨rfl, rfl⟩

theorem require_no (w : World) : Calls Tryz.prog 85 #[.bool false] w fun e w' => e = .panicked broken ∧ w' = w := by
  go_enter Tryz.func85, Tryz.ntmps85
  go_wp2
  exact ⟨rfl, rfl, rfl⟩

/-- A slice of bytes, and what it holds. -/
def RestV (W : World) (v : Value) (xs : List Int) : Prop :=
  (∀ x ∈ xs, 0 ≤ x ∧ x ≤ 255) ∧ ((v = .slice none 0 0 ∧ xs = []) ∨
    ∃ b o c, v = .slice (some ⟨b, o, none⟩) xs.length c ∧ xs.length ≤ c ∧ c ≤ 9223372036854775807 ∧ ∀ (j : Nat) (x : Int), xs[j]? = some x → W.cell? ⟨b, o + j, none⟩ = some (.int .u8 x))

/-- A reader, and what it has still to read. -/
def Rd (R : Nat) (xs : List Int) (W : World) : Prop := ∃ v, W.cell? ⟨R, 0, none⟩ = some v ∧ W.frozen? ⟨R, 0, none⟩ = false ∧ RestV W v xs

theorem RestV.set {W : World} {v u u' : Value} {xs : List Int} {R : Nat} (h : RestV W v xs) (hR : W.cell? ⟨R, 0, none⟩ = some u) (hu : ∀ k n, u ≠ .int k n) : RestV (W.setCell ⟨R, 0, none⟩ u') v xs := by
  refine ⟨h.1, ?_⟩
  rcases h.2 with h | ⟨b, o, c, rfl, h1, h2, h3⟩
  · exact .inl h
  · refine .inr ⟨b, o, c, rfl, h1, h2, fun j x hx => ?_⟩
    have hc := h3 j x hx
    rw [World.cell?_setCell_other _ _ _ _ (fun e => by rw [← e, hR] at hc; exact hu _ _ (Option.some.inj hc))]
    exact hc

theorem RestV.part {W : World} {b o c : Nat} {xs : List Int} (hb : ∀ x ∈ xs, 0 ≤ x ∧ x ≤ 255) (h1 : xs.length ≤ c) (h2 : c ≤ 9223372036854775807) (h3 : ∀ (j : Nat) (x : Int), xs[j]? = some x → W.cell? ⟨b, o + j, none⟩ = some (.int .u8 x)) (n : Nat) (hn : n ≤ xs.length) :
    RestV W (.slice (some ⟨b, o, none⟩) n c) (xs.take n) ∧ RestV W (.slice (some ⟨b, o + n, none⟩) (xs.length - n) (c - n)) (xs.drop n) := by
  refine ⟨⟨fun x hx => hb x (List.mem_of_mem_take hx), .inr ⟨b, o, c, ?_, ?_, h2, fun j x hx => ?_⟩⟩, ⟨fun x hx => hb x (List.mem_of_mem_drop hx), .inr ⟨b, o + n, c - n, ?_, ?_, by omega, fun j x hx => ?_⟩⟩⟩
  · rw [List.length_take, Nat.min_eq_left hn]
  · rw [List.length_take]; omega
  · rw [List.getElem?_take] at hx
    split at hx
    · exact h3 j x hx
    · cases hx
  · rw [List.length_drop]
  · rw [List.length_drop]; omega
  · rw [List.getElem?_drop] at hx
    have := h3 (n + j) x hx
    rw [Nat.add_assoc]
    exact this

set_option maxHeartbeats 1000000 in
theorem take_some (R : Nat) (b o l c : Nat) (n : Nat) (w : World) (hn : n ≤ l) (hlc : l ≤ c) (hr : w.cell? ⟨R, 0, none⟩ = some (.slice (some ⟨b, o, none⟩) l c)) (hf : w.frozen? ⟨R, 0, none⟩ = false) :
    Calls Tryz.prog 89 #[.pointer (some ⟨R, 0, none⟩), .int .i64 n] w fun e w' => e = .returned (.slice (some ⟨b, o, none⟩) n c) ∧
      ((c = n ∧ w' = w.setCell ⟨R, 0, none⟩ (.slice (some ⟨b, o, none⟩) (l - n) 0)) ∨ w' = w.setCell ⟨R, 0, none⟩ (.slice (some ⟨b, o + n, none⟩) (l - n) (c - n))) := by
  go_enter Tryz.func89, Tryz.ntmps89
  go_wp2_with (go_at_call 85; refine (require_ok _).mono ?_; rintro e w1 ⟨rfl, rfl⟩)
  case inl => go_ret; exact ⟨rfl, .inl rfl⟩
  case inr => go_ret; exact ⟨rfl, rfl⟩

set_option maxHeartbeats 1000000 in
theorem take_short (R : Nat) (a : Option Addr) (l c : Nat) (n : Nat) (w : World) (hn : l < n) (hr : w.cell? ⟨R, 0, none⟩ = some (.slice a l c)) :
    Calls Tryz.prog 89 #[.pointer (some ⟨R, 0, none⟩), .int .i64 n] w fun e w' => e = .panicked broken ∧ w' = w := by
  have hd : decide (n ≤ l) = false := decide_eq_false (by omega)
  go_enter Tryz.func89, Tryz.ntmps89
  go_wp2_with (go_at_call 85; refine (require_no _).mono ?_; rintro e w1 ⟨rfl, rfl⟩)
  exact ⟨rfl, rfl, rfl⟩

set_option maxHeartbeats 1000000 in
theorem take_nil (R : Nat) (w : World) (hr : w.cell? ⟨R, 0, none⟩ = some (.slice none 0 0)) (hf : w.frozen? ⟨R, 0, none⟩ = false) :
    Calls Tryz.prog 89 #[.pointer (some ⟨R, 0, none⟩), .int .i64 0] w fun e w' => e = .returned (.slice none 0 0) ∧ w' = w.setCell ⟨R, 0, none⟩ (.slice none 0 0) := by
  go_enter Tryz.func89, Tryz.ntmps89
  go_wp2_with (go_at_call 85; refine (require_ok _).mono ?_; rintro e w1 ⟨rfl, rfl⟩)
  all_goals (go_ret; exact ⟨rfl, rfl⟩)

/-- What reading may leave. -/
def TakeP (R : Nat) (n : Nat) (xs : List Int) (W : World) (e : Ending) (w' : World) : Prop :=
  (n ≤ xs.length ∧ (∃ v, e = .returned v ∧ RestV w' v (xs.take n)) ∧ Rd R (xs.drop n) w' ∧ W.grownBy w' (some R) ∧ Below R W w') ∨ (xs.length < n ∧ e = .panicked broken ∧ w' = W)

theorem grown_set (W : World) (R : Nat) (u : Value) : W.grownBy (W.setCell ⟨R, 0, none⟩ u) (some R) := ⟨rfl, rfl, rfl, by simp, fun k _ hk => Below.heap_setCell W ⟨R, 0, none⟩ u k (fun e => hk (by simp [e]))⟩
theorem below_set (W : World) (R : Nat) (u : Value) : Below R W (W.setCell ⟨R, 0, none⟩ u) := (Below.refl _ _).setCell (p := ⟨R, 0, none⟩) (Nat.le_refl _) _

/-- Reading n bytes. -/
theorem take_any (R n : Nat) (xs : List Int) (W : World) (h : Rd R xs W) :
    Calls Tryz.prog 89 #[.pointer (some ⟨R, 0, none⟩), .int .i64 n] W fun e w' => TakeP R n xs W e w' := by
  obtain ⟨v, hr, hf, hb, hv⟩ := h
  by_cases hn : n ≤ xs.length
  · rcases hv with ⟨rfl, rfl⟩ | ⟨b, o, c, rfl, h1, h2, h3⟩
    · obtain rfl : n = 0 := by simpa using hn
      refine (take_nil R W hr hf).mono ?_
      rintro e w' ⟨rfl, rfl⟩
      have hr0 : ∀ W' : World, RestV W' (.slice none 0 0) [] := fun W' => ⟨by simp, .inl ⟨rfl, rfl⟩⟩
      exact .inl ⟨hn, ⟨_, rfl, hr0 _⟩, ⟨_, World.cell?_setCell_same _ _ _ hr, (World.frozen?_setCell _ _ _ _).trans hf, hr0 _⟩, grown_set _ _ _, below_set _ _ _⟩
    · have hpart := RestV.part hb h1 h2 h3 n hn
      refine (take_some R b o xs.length c n W hn h1 hr hf).mono ?_
      rintro e w' ⟨rfl, ⟨hcn, rfl⟩ | rfl⟩
      · refine .inl ⟨hn, ⟨_, rfl, hpart.1.set hr (by simp)⟩, ⟨_, World.cell?_setCell_same _ _ _ hr, (World.frozen?_setCell _ _ _ _).trans hf, ?_⟩, grown_set _ _ _, below_set _ _ _⟩
        have hx : xs.drop n = [] := List.drop_eq_nil_of_le (by omega)
        rw [hx]
        refine ⟨by simp, .inr ⟨b, o, 0, ?_, by simp, by omega, by simp⟩⟩
        rw [show xs.length - n = ([] : List Int).length by simp; omega]
      · exact .inl ⟨hn, ⟨_, rfl, hpart.1.set hr (by simp)⟩, ⟨_, World.cell?_setCell_same _ _ _ hr, (World.frozen?_setCell _ _ _ _).trans hf, hpart.2.set hr (by simp)⟩, grown_set _ _ _, below_set _ _ _⟩
  · have hs : ∃ a c, v = .slice a xs.length c := by
      rcases hv with ⟨rfl, rfl⟩ | ⟨b, o, c, rfl, _⟩
      · exact ⟨_, _, rfl⟩
      · exact ⟨_, _, rfl⟩
    obtain ⟨a, c, rfl⟩ := hs
    refine (take_short R a xs.length c n W (by omega) hr).mono ?_
    rintro e w' ⟨rfl, rfl⟩
    exact .inr ⟨by omega, rfl, rfl⟩

theorem rest_cell {W : World} {v : Value} {xs : List Int} (h : RestV W v xs) {j : Nat} {x : Int} (hx : xs[j]? = some x) :
    0 ≤ x ∧ x ≤ 255 ∧ ∃ b o c, v = .slice (some ⟨b, o, none⟩) xs.length c ∧ W.cell? ⟨b, o + j, none⟩ = some (.int .u8 x) := by
  have hb := h.1 x (List.mem_of_getElem? hx)
  rcases h.2 with ⟨_, rfl⟩ | ⟨b, o, c, rfl, _, _, h3⟩
  · simp at hx
  · exact ⟨hb.1, hb.2, b, o, c, rfl, h3 j x hx⟩

set_option maxHeartbeats 1000000 in
/-- Reading one byte. -/
theorem one_any (R : Nat) (xs : List Int) (W : World) (h : Rd R xs W) :
    Calls Tryz.prog 84 #[.pointer (some ⟨R, 0, none⟩)] W fun e w' => (∃ x ys, xs = x :: ys ∧ 0 ≤ x ∧ x ≤ 255 ∧ e = .returned (.int .i64 x) ∧ Rd R ys w' ∧ W.grownBy w' (some R) ∧ Below R W w') ∨ (xs = [] ∧ e = .panicked broken ∧ w' = W) := by
  go_enter Tryz.func84, Tryz.ntmps84
  go_wp2_with fail
  refine (take_any R 1 xs W h).mono ?_
  rintro e w1 (⟨hn, ⟨v, rfl, hv⟩, hrd, hg, hbl⟩ | ⟨hn, rfl, rfl⟩)
  · obtain ⟨x, ys, rfl⟩ : ∃ x ys, xs = x :: ys := by
      cases xs with
      | nil => simp at hn
      | cons x ys => exact ⟨x, ys, rfl⟩
    obtain ⟨hx0, hx1, b, o, c, hv', hcell⟩ := rest_cell hv (j := 0) (x := x) rfl
    simp only [List.take_succ_cons, List.take_zero, List.length_cons, List.length_nil, Nat.zero_add, Nat.add_zero] at hv' hcell
    subst hv'
    clear hv
    go_wp2
    go_ret
    exact .inl ⟨x, ys, rfl, hx0, hx1, rfl, hrd, hg, hbl⟩
  · obtain rfl : xs = [] := List.eq_nil_of_length_eq_zero (by omega)
    exact ⟨rfl, .inr ⟨rfl, rfl, rfl⟩⟩
end Go.Proofs.YtakaadcpaeiccabGreat

namespace Go.Proofs.YtakaadcpaeiccabGreat
open Go.RowKit

theorem g_odd {c : Nat} (hc : c < 4294967296) (h : (bits .and .u32 (c : Int) 1 == 1) = true) : bits .xor .u32 ((c : Int) / 2) 3988292384 = ((Crc.g c : Nat) : Int) := by
  rw [show (1 : Int) = ((1 : Nat) : Int) from rfl, u32_and_nat c 1 hc (by omega), Nat.and_one_is_mod] at h
  have h1 : c % 2 = 1 := by
    have := beq_iff_eq.1 h
    omega
  rw [show (c : Int) / 2 = ((c / 2 : Nat) : Int) by omega, show (3988292384 : Int) = ((3988292384 : Nat) : Int) from rfl, u32_xor_nat (c / 2) 3988292384 (by omega) (by omega)]
  unfold Crc.g
  rw [if_pos h1]
theorem g_even {c : Nat} (hc : c < 4294967296) (h : (bits .and .u32 (c : Int) 1 == 1) = false) : (c : Int) / 2 = ((Crc.g c : Nat) : Int) := by
  rw [show (1 : Int) = ((1 : Nat) : Int) from rfl, u32_and_nat c 1 hc (by omega), Nat.and_one_is_mod] at h
  have h1 : ¬ c % 2 = 1 := by
    have := beq_eq_false_iff_ne.1 h
    omega
  unfold Crc.g
  rw [if_neg h1]
  omega

set_option maxHeartbeats 1000000 in
theorem sumNumber_any (n : Int) (h0 : 0 ≤ n) (h1 : n ≤ 255) (w : World) :
    Calls Tryz.prog 91 #[.int .u8 n] w fun e w' => e = .returned (.int .u32 (Crc.tab n.toNat : Nat)) ∧ w' = w := by
  obtain ⟨m, rfl⟩ := Int.eq_ofNat_of_zero_le h0
  go_enter Tryz.func91, Tryz.ntmps91
  go_wp2
  go_loop [3, 7] (fun s i => ∃ k : Nat, k ≤ 8 ∧ i = .int .i64 k ∧ s = .int .u32 (Crc.gs k m : Nat)) (fun _ i => 8 - (intOf i).toNat)
  case atStart => exact ⟨0, by omega, rfl, rfl⟩
  case round =>
    obtain ⟨k, hk, rfl, rfl⟩ := hrel
    have hc : Crc.gs k m < 4294967296 := Crc.gs_lt (by omega) k
    by_cases hlt : k < 8
    · go_wp2
      · rename_i h
        have he := g_odd hc h
        go_round
        case rel => exact ⟨k + 1, by omega, by go_num, by rw [he]; rfl⟩
        case measure => simp [intOf]; omega
      · rename_i h
        have he := g_even hc h
        go_round
        case rel => exact ⟨k + 1, by omega, by go_num, by rw [he]; rfl⟩
        case measure => simp [intOf]; omega
    · go_wp2
      go_ret
      obtain rfl : k = 8 := by omega
      exact ⟨rfl, rfl⟩

/-- Bytes as plain numbers. -/
def nats (xs : List Int) : List Nat := xs.map Int.toNat
theorem nats_b {xs : List Int} (h : ∀ x ∈ xs, 0 ≤ x ∧ x ≤ 255) : ∀ x ∈ nats xs, x < 256 := by
  intro x hx
  simp only [nats, List.mem_map] at hx
  obtain ⟨y, hy, rfl⟩ := hx
  have := h y hy
  omega
/-- The SUM of bytes. -/
def crcN (xs : List Int) : Nat := Crc.run (nats xs) 4294967295
def crc (xs : List Int) : Int := 4294967295 - (crcN xs : Int)
theorem crcN_lt {xs : List Int} (h : ∀ x ∈ xs, 0 ≤ x ∧ x ≤ 255) : crcN xs < 4294967296 := Crc.run_lt _ (by omega) (nats_b h)
theorem crc_b {xs : List Int} (h : ∀ x ∈ xs, 0 ≤ x ∧ x ≤ 255) : 0 ≤ crc xs ∧ crc xs < 4294967296 := by
  have := crcN_lt h
  unfold crc
  omega
theorem crcN_snoc (xs : List Int) (x : Int) : crcN (xs ++ [x]) = Crc.step (crcN xs) x.toNat := by
  unfold crcN nats
  rw [List.map_append, Crc.run_append]
  rfl
theorem step_int {s : Nat} {x : Int} (hs : s < 4294967296) (h0 : 0 ≤ x) (h1 : x ≤ 255) :
    bits .xor .u32 ((Crc.tab (bits .xor .u8 ((s : Int) % 256) x).toNat : Nat) : Int) ((s : Int) / 256) = ((Crc.step s x.toNat : Nat) : Int) := by
  obtain ⟨m, rfl⟩ := Int.eq_ofNat_of_zero_le h0
  rw [show (s : Int) % 256 = ((s % 256 : Nat) : Int) by omega, u8_xor_nat (s % 256) m (by omega) (by omega), Int.toNat_natCast,
    show (s : Int) / 256 = ((s / 256 : Nat) : Int) by omega, u32_xor_nat _ _ (Crc.tab_lt (by have := Crc.xor_byte (Nat.mod_lt s (by decide : 0 < 256)) (show m < 256 by omega); omega)) (by omega)]
  rfl
theorem take_snoc (xs : List Int) (k : Nat) {x : Int} (h : xs[k]? = some x) : xs.take (k + 1) = xs.take k ++ [x] := by
  rw [List.take_add_one, h]
  rfl
theorem take_b {xs : List Int} (h : ∀ x ∈ xs, 0 ≤ x ∧ x ≤ 255) (k : Nat) : ∀ x ∈ xs.take k, 0 ≤ x ∧ x ≤ 255 := fun x hx => h x (List.mem_of_mem_take hx)

theorem crc_not {c : Nat} (hc : c < 4294967296) : bits .xor .u32 IntKind.u32.max (c : Int) = 4294967295 - (c : Int) := by
  rw [show IntKind.u32.max = ((4294967295 : Nat) : Int) from rfl, u32_xor_nat 4294967295 c (by omega) hc]
  have h := congrArg BitVec.toNat (BitVec.allOnes_xor (w := 32) (x := BitVec.ofNat 32 c))
  rw [BitVec.toNat_xor, BitVec.toNat_not, BitVec.toNat_ofNat, BitVec.toNat_allOnes, Nat.mod_eq_of_lt hc] at h
  simp only [Nat.reducePow, Nat.add_one_sub_one] at h
  omega

set_option maxHeartbeats 1000000 in
theorem sum_any (v : Value) (xs : List Int) (w : World) (hv : RestV w v xs) :
    Calls Tryz.prog 58 #[v] w fun e w' => e = .returned (.int .u32 (crc xs)) ∧ w' = w := by
  obtain ⟨a, c, rfl⟩ : ∃ a c, v = .slice a xs.length c := by
    rcases hv.2 with ⟨rfl, rfl⟩ | ⟨b, o, c, rfl, _⟩
    · exact ⟨_, _, rfl⟩
    · exact ⟨_, _, rfl⟩
  have hlen : xs.length ≤ 9223372036854775807 := by
    rcases hv.2 with ⟨_, rfl⟩ | ⟨b, o, c, _, h1, h2, _⟩
    · simp
    · omega
  have hb := hv.1
  go_enter Tryz.func58, Tryz.ntmps58
  go_wp2
  go_loop [3, 8] (fun s i => ∃ k : Nat, k ≤ xs.length ∧ i = .int .i64 k ∧ s = .int .u32 (crcN (xs.take k) : Nat)) (fun _ i => xs.length - (intOf i).toNat)
  case atStart => exact ⟨0, by omega, rfl, rfl⟩
  case round =>
    obtain ⟨k, hk, rfl, rfl⟩ := hrel
    have hc := crcN_lt (take_b hb k)
    by_cases hlt : k < xs.length
    · obtain ⟨x, hx⟩ : ∃ x, xs[k]? = some x := ⟨_, List.getElem?_eq_getElem hlt⟩
      obtain ⟨hx0, hx1, b, o, c', he, hcell⟩ := rest_cell hv hx
      simp only [Value.slice.injEq] at he
      obtain ⟨rfl, he1, rfl⟩ := he
      clear he1
      have hst : Hid _ := step_int hc hx0 hx1
      have hsn : Hid _ := crcN_snoc (xs.take k) x
      have hts : Hid _ := take_snoc xs k hx
      have hq : 0 ≤ bits .xor .u8 ((crcN (xs.take k) : Int) % 256) x ∧ bits .xor .u8 ((crcN (xs.take k) : Int) % 256) x ≤ 255 := by
        obtain ⟨m, rfl⟩ := Int.eq_ofNat_of_zero_le hx0
        rw [show (crcN (xs.take k) : Int) % 256 = ((crcN (xs.take k) % 256 : Nat) : Int) by omega, u8_xor_nat _ m (by omega) (by omega)]
        have := Crc.xor_byte (Nat.mod_lt (crcN (xs.take k)) (by decide : 0 < 256)) (show m < 256 by omega)
        omega
      clear hx hv hb
      go_wp2_with (go_at_call 91; refine (sumNumber_any _ hq.1 hq.2 _).mono ?_; rintro e w1 ⟨rfl, rfl⟩)
      go_round
      case rel => exact ⟨k + 1, by omega, by go_num, by rw [hst.out, hts.out, hsn.out]⟩
      case measure => simp [intOf]; omega
    · go_wp2
      go_ret
      obtain rfl : k = xs.length := by omega
      simp only [List.take_length]
      exact ⟨ret_int (crc_not (crcN_lt hb)), trivial⟩
end Go.Proofs.YtakaadcpaeiccabGreat
