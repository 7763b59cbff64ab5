import Derived.Test.YtakaadcpaeiccabGreatC08
import Derived.Deep.AppendSrc
import Derived.Lib.SliceRun
import Derived.Deep.RegionLaw
import Derived.Test.YtakaadcpaeiccabGreatC48
import Derived.Deep.RegionHeld3
import Derived.BigRegion
import Derived.Deep.CutBlock
namespace Go.Proofs.YtakaadcpaeiccabGreat.DF
open Go.RowKit Go.Maps

/-! One element of a row is taken out. -/
theorem own_cells {base e g m cap size : Nat} : ∀ (vs : List Value) (o : Nat) (xs : List Value) (W : World), W.ownsRow base e size (.slice (some ⟨g, 0, none⟩) m cap) m xs → o + vs.length ≤ m * size →
    (W.setCells g o vs).ownsRow base e size (.slice (some ⟨g, 0, none⟩) m cap) m (xs.take o ++ vs ++ xs.drop (o + vs.length)) ∧ W.grownBy (W.setCells g o vs) (some g)
  | [], o, xs, W, h, _ => by
    simp only [World.setCells, List.append_nil, List.length_nil, Nat.add_zero, List.take_append_drop]
    exact ⟨h, grown_self _ _⟩
  | v :: r, o, xs, W, h, hl => by
    simp only [List.length_cons] at hl
    have hx : xs.length = m * size := h.1
    obtain ⟨h1, g1⟩ := h.stored o v
    obtain ⟨h2, g2⟩ := own_cells r (o + 1) (xs.set o v) (W.setCell ⟨g, o, none⟩ v) h1 (by omega)
    refine ⟨?_, ⟨g2.os.trans g1.os, g2.tape.trans g1.tape, g2.output.trans g1.output, Nat.le_trans g1.size g2.size, fun k hk hn => (g2.block k (Nat.lt_of_lt_of_le hk g1.size) hn).trans (g1.block k hk hn)⟩⟩
    have e1 : (xs.set o v).take (o + 1) = xs.take o ++ [v] := by
      rw [List.take_succ_eq_append_getElem (by simp; omega), List.take_set_of_le (Nat.le_refl o)]
      simp
    have e2 : (xs.set o v).drop (o + 1 + r.length) = xs.drop (o + (r.length + 1)) := by
      rw [List.drop_set_of_lt (by omega), show o + 1 + r.length = o + (r.length + 1) by omega]
    rw [e1, e2] at h2
    show ((W.setCell ⟨g, o, none⟩ v).setCells g (o + 1) r).ownsRow _ _ _ _ _ _
    simpa using h2
/-- A row read shorter. -/
theorem own_short {base e g n m cap size : Nat} {W : World} {xs : List Value} (h : W.ownsRow base e size (.slice (some ⟨g, 0, none⟩) n cap) n xs) (hm : m ≤ n) :
    W.ownsRow base e size (.slice (some ⟨g, 0, none⟩) m cap) m (xs.take (m * size)) := by
  rcases h.2 with ⟨he, _⟩ | ⟨g', cap', cur, he, hb, hg, h1, h2, h3, h4⟩
  · cases he
  · cases he
    have hx := h.1
    have hms : m * size ≤ n * size := Nat.mul_le_mul_right _ hm
    refine ⟨by rw [List.length_take, hx]; omega, .inr ⟨g, cap, cur, rfl, hb, hg, by omega, h2, h3, ?_⟩⟩
    rw [← h4, List.take_take, Nat.min_eq_left hms]
theorem slice_h (a : Option Addr) (n c k : Nat) (hk : k ≤ c) (W : World) : (Instr.slice 45 (.slice a n c) none (some (.int .i64 k)) none).run Tryz.prog W = .ok (.slice a k c) W := by
  have ht : Tryz.prog.underlying 45 = some (.slice (Tryz.prog.elem 45)) := by simp [Program.elem, Tryz.underlying45]
  have hz : ∀ w, (Go.sizeOf (Tryz.prog.elem 45)).run Tryz.prog w = .ok 3 w := by
    intro w
    simp [go_sem, Program.elem, Tryz.underlying45]
  rw [run_slice_h W 45 _ _ _ ht .i64 _ (by omega) (by omega), hz]
  simp only [Result.andThen, sliced]
  rw [Nat.sub_zero, Nat.sub_zero, Int.toNat_natCast]
  cases a <;> (split <;> simp [Addr.add])
theorem slice_l (g n c k : Nat) (hk : k ≤ n) : ∃ ad : Addr, (∀ W, (Instr.slice 45 (.slice (some ⟨g, 0, none⟩) n c) (some (.int .i64 k)) none none).run Tryz.prog W = .ok (.slice (some ad) (n - k) (c - k)) W) ∧ (k < c → ad = ⟨g, k * 3, none⟩) := by
  have ht : Tryz.prog.underlying 45 = some (.slice (Tryz.prog.elem 45)) := by simp [Program.elem, Tryz.underlying45]
  have hz : ∀ w, (Go.sizeOf (Tryz.prog.elem 45)).run Tryz.prog w = .ok 3 w := by
    intro w
    simp [go_sem, Program.elem, Tryz.underlying45]
  refine ⟨if c = k then ⟨g, 0, none⟩ else ⟨g, k * 3, none⟩, fun W => ?_, fun h => by rw [if_neg (by omega)]⟩
  rw [run_slice_l W 45 _ _ _ ht .i64 _ (by omega) (by omega), hz]
  simp only [Result.andThen, sliced]
  rw [Int.toNat_natCast]
  split <;> simp [Addr.add_lit]
theorem slice_lh (g n c k m : Nat) (hk : k < m) (hm : m ≤ c) (W : World) : (Instr.slice 45 (.slice (some ⟨g, 0, none⟩) n c) (some (.int .i64 k)) (some (.int .i64 m)) none).run Tryz.prog W = .ok (.slice (some ⟨g, k * 3, none⟩) (m - k) (c - k)) W := by
  have ht : Tryz.prog.underlying 45 = some (.slice (Tryz.prog.elem 45)) := by simp [Program.elem, Tryz.underlying45]
  have hz : ∀ w, (Go.sizeOf (Tryz.prog.elem 45)).run Tryz.prog w = .ok 3 w := by
    intro w
    simp [go_sem, Program.elem, Tryz.underlying45]
  rw [run_slice_lh W 45 _ _ _ ht .i64 .i64 _ _ (by omega) (by omega) (by omega), hz]
  simp only [Result.andThen, sliced]
  rw [Int.toNat_natCast, Int.toNat_natCast, if_neg (by omega)]
  simp [Addr.add_lit]
theorem slice_lhm (a : Option Addr) (n c k m l : Nat) (hk : k ≤ m) (hm : m ≤ l) (hl : l ≤ c) : ∃ v, ∀ W, (Instr.slice 45 (.slice a n c) (some (.int .i64 k)) (some (.int .i64 m)) (some (.int .i64 l))).run Tryz.prog W = .ok v W := by
  have ht : Tryz.prog.underlying 45 = some (.slice (Tryz.prog.elem 45)) := by simp [Program.elem, Tryz.underlying45]
  have hz : ∀ w, (Go.sizeOf (Tryz.prog.elem 45)).run Tryz.prog w = .ok 3 w := by
    intro w
    simp [go_sem, Program.elem, Tryz.underlying45]
  refine ⟨sliced a k m l 3, fun W => ?_⟩
  rw [run_slice_lhm W 45 _ _ _ ht .i64 .i64 .i64 _ _ _ (by omega) (by omega) (by omega) (by omega), hz]
  simp only [Result.andThen, Int.toNat_natCast]
theorem zero_val (w : World) : (zeroValue 149).run Tryz.prog w = .ok (.agg #[.int .i64 0, .int .i64 0, .string ⟨#[]⟩]) w := by kernel_rfl
/-- One element becomes zero. -/
theorem run_clear1 (w : World) (ty : TypeId) (b o c : Nat) (hc : ∀ j, j < 3 → (w.cell? ⟨b, o + j, none⟩).isSome = true) (hf : ∀ j, j < 3 → w.frozen? ⟨b, o + j, none⟩ = false) :
    (Builtin.clear_ #[45] ty #[.slice (some ⟨b, o, none⟩) 1 c]).run Tryz.prog w = .ok (.tuple #[]) (w.setCells b o ([.int .i64 0, .int .i64 0, .string ⟨#[]⟩] : List Value)) := by
  have hzc : (Builtin.zeroCells (.agg #[.int .i64 0, .int .i64 0, .string ⟨#[]⟩] : Value).cells 1).toList = ([.int .i64 0, .int .i64 0, .string ⟨#[]⟩] : List Value) := by kernel_rfl
  have hst := run_storeCells_cells (P := Tryz.prog) b o ([.int .i64 0, .int .i64 0, .string ⟨#[]⟩] : List Value) 0 w (by simpa using hc) (by simpa using hf) (by intro v hv; simp at hv; rcases hv with rfl | rfl <;> rfl)
  simp only [Nat.add_zero] at hst
  simp [Builtin.clear_, run_underlying Tryz.underlying45, zero_val, hzc, hst]
theorem info_e : (Tryz.prog.info? 149).map (fun i => (i.zero, i.size, i.bytes)) = some (some (.agg #[.int .i64 0, .int .i64 0, .string ⟨#[]⟩]), 3, 32) := by kernel_rfl

set_option maxRecDepth 100000 in
set_option maxHeartbeats 4000000 in
theorem Delete_any (base g n cap i : Nat) (xs : List Value) (w : World) (h : w.ownsRow base 149 3 (.slice (some ⟨g, 0, none⟩) n cap) n xs) (hi : i < n) (hn : n ≤ 1000000) (h1c : ∀ u ∈ xs, u.oneCell' = true) :
    Calls Tryz.prog 99 #[.slice (some ⟨g, 0, none⟩) n cap, .int .i64 i, .int .i64 ((i : Int) + 1)] w fun e w' => e = .returned (.slice (some ⟨g, 0, none⟩) (n - 1) cap) ∧ w'.ownsRow base 149 3 (.slice (some ⟨g, 0, none⟩) (n - 1) cap) (n - 1) (xs.take (i * 3) ++ xs.drop ((i + 1) * 3)) ∧ w.grownBy w' (some g) := by
  obtain ⟨i0, hii, hz0, hz1, hz2⟩ := info_parts info_e
  have hcap : n ≤ cap := by
    rcases h.2 with ⟨he, _⟩ | ⟨g', cap', cur, he, hb, hg, h1, h2, h3, h4⟩
    · cases he
    · cases he; exact h1
  have hx := h.1
  obtain ⟨v13, hs13⟩ := slice_lhm (some ⟨g, 0, none⟩) n cap i (i + 1) n (by omega) (by omega) hcap
  have hs22 := slice_h (some ⟨g, 0, none⟩) n cap i (by omega)
  obtain ⟨ad, hs25, had⟩ := slice_l g n cap (i + 1) (by omega)
  have hd : w.drew.ownsRow base 149 3 (.slice (some ⟨g, 0, none⟩) n cap) n xs := h
  have hnl : (xs.drop ((i + 1) * 3)).length = (n - (i + 1)) * 3 := by
    rw [List.length_drop, hx, Nat.sub_mul]
  have hcell : ∀ {W : World} {ys : List Value}, W.ownsRow base 149 3 (.slice (some ⟨g, 0, none⟩) n cap) n ys → ∀ j, j < n * 3 → (W.cell? ⟨g, j, none⟩).isSome = true := fun hW j hj => by
    rw [hW.cellAt j hj, List.getElem?_eq_getElem (by rw [hW.1]; exact hj)]
    rfl
  have hjl : ∀ j, j < (n - (i + 1)) * 3 → (i + 1) * 3 + j < n * 3 ∧ i * 3 + j < n * 3 := fun j hj => by
    rw [Nat.sub_mul] at hj
    have : (i + 1) * 3 ≤ n * 3 := Nat.mul_le_mul_right _ (by omega)
    rw [Nat.add_mul] at hj this ⊢
    try omega
  have hcA : Hid (∀ j u, (xs.drop ((i + 1) * 3))[j]? = some u → w.drew.cell? (ad.add j) = some u) := fun j u hj => by
    have hl := (List.getElem?_eq_some_iff.1 hj).1
    rw [hnl] at hl
    rw [had (by omega), Addr.add_lit]
    rw [List.getElem?_drop] at hj
    exact (hd.cellAt _ (hjl j hl).1).trans hj
  have hspA : Hid (∀ j, j < (xs.drop ((i + 1) * 3)).length → (w.drew.cell? ⟨g, 0 + i * 3 + j, none⟩).isSome = true ∧ w.drew.frozen? ⟨g, 0 + i * 3 + j, none⟩ = false) := fun j hj => by
    rw [hnl] at hj
    rw [Nat.zero_add]
    exact ⟨hcell hd _ (hjl j hj).2, hd.frozenAt _⟩
  have hE1 : Hid (i + (n - (i + 1)) = n - 1) := by show _ = _; omega
  have hE2 : Hid (0 + i * 3 = i * 3) := Nat.zero_add _
  have hnlA := (show Hid _ from hnl)
  have h1cA : Hid (∀ u ∈ xs.drop ((i + 1) * 3), u.oneCell' = true) := fun u hu => h1c u (List.mem_of_mem_drop hu)
  obtain ⟨h1, g1⟩ := own_cells (xs.drop ((i + 1) * 3)) (i * 3) xs _ hd (by
    rw [hnl, ← Nat.add_mul]
    exact Nat.mul_le_mul_right _ (by omega))
  have hs31 := slice_lh g (n - 1) cap (n - 1) n (by omega) hcap
  rw [show n - (n - 1) = 1 by omega] at hs31
  have hlast : (n - 1) * 3 + 3 = n * 3 := by
    rw [← Nat.succ_mul, show (n - 1).succ = n by omega]
  have hcl : ∀ ty, (Builtin.clear_ #[45] ty #[.slice (some ⟨g, (n - 1) * 3, none⟩) 1 (cap - (n - 1))]).run Tryz.prog (w.drew.setCells g (i * 3) (xs.drop ((i + 1) * 3))) = .ok (.tuple #[]) ((w.drew.setCells g (i * 3) (xs.drop ((i + 1) * 3))).setCells g ((n - 1) * 3) ([.int .i64 0, .int .i64 0, .string ⟨#[]⟩] : List Value)) := fun ty =>
    run_clear1 _ ty g _ _ (fun j hj => hcell h1 _ (by omega)) (fun j hj => h1.frozenAt _)
  obtain ⟨h2, g2⟩ := own_cells ([.int .i64 0, .int .i64 0, .string ⟨#[]⟩] : List Value) ((n - 1) * 3) _ _ h1 (by simp only [List.length_cons, List.length_nil]; omega)
  have h3 := own_short h2 (m := n - 1) (by omega)
  have hgg : w.grownBy ((w.drew.setCells g (i * 3) (xs.drop ((i + 1) * 3))).setCells g ((n - 1) * 3) ([.int .i64 0, .int .i64 0, .string ⟨#[]⟩] : List Value)) (some g) := ⟨g2.os.trans g1.os, g2.tape.trans g1.tape, g2.output.trans g1.output, Nat.le_trans g1.size g2.size, fun k hk hn => (g2.block k (Nat.lt_of_lt_of_le hk g1.size) hn).trans (g1.block k hk hn)⟩
  have hfinal : ((xs.take (i * 3) ++ xs.drop ((i + 1) * 3) ++ xs.drop (i * 3 + (xs.drop ((i + 1) * 3)).length)).take ((n - 1) * 3) ++ ([.int .i64 0, .int .i64 0, .string ⟨#[]⟩] : List Value) ++ (xs.take (i * 3) ++ xs.drop ((i + 1) * 3) ++ xs.drop (i * 3 + (xs.drop ((i + 1) * 3)).length)).drop ((n - 1) * 3 + ([.int .i64 0, .int .i64 0, .string ⟨#[]⟩] : List Value).length)).take ((n - 1) * 3) = xs.take (i * 3) ++ xs.drop ((i + 1) * 3) := by
    have hl : (xs.take (i * 3) ++ xs.drop ((i + 1) * 3)).length = (n - 1) * 3 := by
      have : i * 3 ≤ n * 3 := Nat.mul_le_mul_right _ (by omega)
      rw [List.length_append, hnl, List.length_take, hx, Nat.min_eq_left this, ← Nat.add_mul]
      congr 1
      all_goals omega
    rw [List.take_left' hl, List.append_assoc, List.take_left' hl]
  rw [hfinal] at h3
  clear h1 g1 h2 g2 hcell hd h hnl hlast hx had h1c hjl
  have hfin := (show Hid _ from And.intro h3 hgg)
  clear h3 hgg hfinal
  have hne : ((i : Int) == (i : Int) + 1) = false := by
    have : ¬ ((i : Int) = (i : Int) + 1) := by omega
    simpa using this
  rw [show ((i + 1 : Nat) : Int) = (i : Int) + 1 from rfl] at hs13 hs25
  try simp only [Nat.mul_one] at hcl hs31 hfin
  go_enter Tryz.func99, Tryz.ntmps99
  go_wp2_with fail
  go_region_law (refine step_append_room rfl (.tmp 22) (.tmp 25) 45 rfl 149 i0 3 Tryz.underlying45 hii hz1 g 0 i cap rfl ad (n - (i + 1)) (cap - (i + 1)) (xs.drop ((i + 1) * 3)) rfl hnlA.out hcA.out h1cA.out (by omega) hspA.out ?_; rw [hE1.out, hE2.out])
  all_goals
    generalize (w.drew.setCells g (i * 3) (xs.drop ((i + 1) * 3))) = X at hcl hfin ⊢
    go_wp2
    go_returns
    exact ⟨rfl, hfin.out⟩
end Go.Proofs.YtakaadcpaeiccabGreat.DF

namespace Go.Proofs.YtakaadcpaeiccabGreat
open Go.RowKit Go.Maps

/-! What is under way: launch, land, cut. -/
theorem FlC_append (a b : List (Nat × Nat × ByteArray)) : FlC (a ++ b) = FlC a ++ FlC b := by simp [FlC]
theorem FlC_length (L : List (Nat × Nat × ByteArray)) : (FlC L).length = L.length * 3 := flat_length (fun f : Nat × Nat × ByteArray => ([Value.int .i64 f.1, .int .i64 f.2.1, .string f.2.2] : List Value)) 3 (fun _ => rfl) L
theorem one_fl (L : List (Nat × Nat × ByteArray)) : ∀ u ∈ FlC L, u.oneCell' = true := by
  intro u hu
  obtain ⟨x, _, hx⟩ := List.mem_flatMap.1 hu
  simp only [List.mem_cons, List.not_mem_nil, or_false] at hx
  rcases hx with rfl | rfl | rfl <;> rfl
theorem FlC_get {L : List (Nat × Nat × ByteArray)} {k : Nat} {x : Nat × Nat × ByteArray} (h : L[k]? = some x) : (FlC L)[k * 3]? = some (.int .i64 x.1) ∧ (FlC L)[k * 3 + 1]? = some (.int .i64 x.2.1) ∧ (FlC L)[k * 3 + 2]? = some (.string x.2.2) := by
  have hf := fun i hi => flat_at (fun f : Nat × Nat × ByteArray => ([Value.int .i64 f.1, .int .i64 f.2.1, .string f.2.2] : List Value)) 3 (by decide) (fun _ => rfl) L k i hi h
  exact ⟨hf 0 (by decide), hf 1 (by decide), hf 2 (by decide)⟩
theorem FlC_take (L : List (Nat × Nat × ByteArray)) (k : Nat) : FlC (L.take k) = (FlC L).take (k * 3) := by
  induction L generalizing k with
  | nil => simp [FlC]
  | cons a L ih =>
    cases k with
    | zero => simp [FlC]
    | succ k =>
      rw [List.take_succ_cons]
      show [_, _, _] ++ FlC (L.take k) = (([_, _, _] : List Value) ++ FlC L).take ((k + 1) * 3)
      rw [ih, show (k + 1) * 3 = k * 3 + 1 + 1 + 1 by omega]
      rfl
theorem FlC_drop (L : List (Nat × Nat × ByteArray)) (k : Nat) : FlC (L.drop k) = (FlC L).drop (k * 3) := by
  have h := FlC_append (L.take k) (L.drop k)
  rw [List.take_append_drop, FlC_take] at h
  by_cases hk : k ≤ L.length
  · have hl : ((FlC L).take (k * 3)).length = k * 3 := by rw [List.length_take, FlC_length]; omega
    have h2 : (FlC L).drop (k * 3) = ((FlC L).take (k * 3) ++ FlC (L.drop k)).drop (k * 3) := by rw [← h]
    rw [h2, List.drop_append, hl, Nat.sub_self, List.drop_zero, (List.drop_eq_nil_of_le (by omega) : ((FlC L).take (k * 3)).drop (k * 3) = []), List.nil_append]
  · rw [List.drop_eq_nil_of_le (by omega), List.drop_eq_nil_of_le (by rw [FlC_length]; omega)]
    rfl
/-- What is under way has turned. -/
theorem MM.fly {y : MG} {m : Msh} {W : World} (h : MM y m W) {v7 : Value} {w7 : World} {F : List (Nat × Nat × ByteArray)} (ho : w7.ownsRow 0 149 3 v7 F.length (FlC F)) (hg : W.grownBy w7 y.av.ownBlock) (hv : v7.ownBlock = y.av.ownBlock ∨ v7.ownBlock = some W.heap.size) :
    (w7.cell? ⟨y.G, 2, none⟩ = some y.av ∧ w7.frozen? ⟨y.G, 2, none⟩ = false) ∧ MM { y with av := v7 } { m with air := F } (w7.setCell ⟨y.G, 2, none⟩ v7) ∧ MU y m { y with av := v7 } { m with air := F } W (w7.setCell ⟨y.G, 2, none⟩ v7) := by
  have hne : y.av.ownBlock ≠ some y.G := row_not h.air h.blk (fun c e => (by cases e))
  have hblk := hg.block _ (some_lt h.blk) fun e => hne e.symm
  obtain ⟨_, _, c2, fz⟩ := h.cell
  have hb7 := hblk.trans h.blk
  have hg2 : w7.grownBy (w7.setCell ⟨y.G, 2, none⟩ v7) (some y.G) := grown_cellOf (grown_self _ (some y.G)) 2 _
  have hsz := hg.size
  have hkeep : ∀ k, k < W.heap.size → k ≠ y.G → y.av.ownBlock ≠ some k → (w7.setCell ⟨y.G, 2, none⟩ v7).heap[k]? = W.heap[k]? := fun k hk h1 h2 => (hg2.block k (by omega) fun e => h1 (Option.some.inj e)).trans (hg.block k hk fun e => h2 e.symm)
  have hf : Fx (MIn y m) W (w7.setCell ⟨y.G, 2, none⟩ v7) := grown_Fx (Fx.grown hg fun k e => .inr (.inr (.inl e))) hg2 fun i _ e => by cases e; exact .inl rfl
  refine ⟨⟨(World.cell?_of_block (a := ⟨y.G, 2, none⟩) hblk).trans c2, (World.frozen?_of_block (a := ⟨y.G, 2, none⟩) hblk).trans (fz 2)⟩, ⟨?_, ?_, ho.kept hg2 (.inr (row_not ho hb7 (fun c e => (by cases e)))), h.len, fun i x s h1 h2 => (h.st i x s h1 h2).kept fun k hk => ?_, h.ap⟩, hf, fun k hk => ?_, rfl, rfl, rfl, rfl⟩
  · simp [World.setCell, Array.getElem?_modify, hb7]
  · refine row_at h.sts fun k hk => hkeep k (h.sts.lt k hk).2 (fun e => ?_) fun e => ?_
    · subst e
      exact row_not h.sts h.blk (fun c e => (by cases e)) hk
    · rcases rows_apart h.sts h.air (by decide) with q | q
      · rw [q] at hk; cases hk
      · exact q (hk.trans e.symm)
  · obtain ⟨q1, _, q3⟩ := h.own h1 h2 hk
    exact hkeep k ((h.st i x s h1 h2).lt hk) q1 q3
  · rcases hk with hk | hk | hk | hk
    · exact .inl (.inl hk)
    · exact .inl (.inr (.inl hk))
    · rcases hv with e | e
      · exact .inl (.inr (.inr (.inl (by rw [← e]; exact hk))))
      · have h1 := (ho.lt k hk).2
        rw [show ({ y with av := v7 } : MG).av = v7 from rfl, e] at hk
        cases hk
        exact .inr ⟨Nat.le_refl _, by simpa using h1⟩
    · exact .inl (.inr (.inr (.inr hk)))
theorem MM.drew {y : MG} {m : Msh} {W : World} (h : MM y m W) : MM y m W.drew := h.kept fun _ _ => rfl
theorem MU.pre {y y' : MG} {m m' : Msh} {w w1 w' : World} (hb : Below w.heap.size w w1) (h : MU y m y' m' w1 w') : MU y m y' m' w w' := (MU.below hb).trans h
theorem MU.post {y y' : MG} {m m' : Msh} {w w1 w' : World} (h : MU y m y' m' w w1) (hb : Below w1.heap.size w1 w') : MU y m y' m' w w' := h.trans (MU.below hb)
/-- What a call leaves of a mesh. -/
def MP (y : MG) (m m' : Msh) (w w' : World) : Prop := ∃ y', MM y' m' w' ∧ MU y m y' m' w w'
theorem MP.pre {y : MG} {m m' : Msh} {w w1 w' : World} (hb : Below w.heap.size w w1) (h : MP y m m' w1 w') : MP y m m' w w' := by
  obtain ⟨y', h1, h2⟩ := h
  exact ⟨y', h1, h2.pre hb⟩
theorem MP.post {y : MG} {m m' : Msh} {w w1 w' : World} (h : MP y m m' w w1) (hb : Below w1.heap.size w1 w') : MP y m m' w w' := by
  obtain ⟨y', h1, h2⟩ := h
  exact ⟨y', h1.later hb, h2.post hb⟩
theorem MP.refl {y : MG} {m : Msh} {w : World} (h : MM y m w) : MP y m m w w := ⟨y, h, MU.refl _ _ _⟩
theorem MP.comp {y y1 : MG} {m m1 m' : Msh} {w w1 w' : World} (u : MU y m y1 m1 w w1) (h : MP y1 m1 m' w1 w') : MP y m m' w w' := by
  obtain ⟨y', h1, h2⟩ := h
  exact ⟨y', h1, u.trans h2⟩
theorem info_fl : (Tryz.prog.info? 149).map (fun i => (i.zero, i.size, i.bytes)) = some (some (.agg #[.int .i64 0, .int .i64 0, .string ⟨#[]⟩]), 3, 32) := by kernel_rfl
theorem cells_fl (W : World) (a b : Nat) (s : ByteArray) : ∀ (j : Nat) (u : Value), (FlC [(a, b, s)])[j]? = some u → (W.alloc (.cells #[.int .i64 a, .int .i64 b, .string s] 149)).drew.cell? ((⟨W.heap.size, 0, none⟩ : Addr).add j) = some u := by
  intro j u hj
  have hh := heap_alloc_new W (.cells #[.int .i64 a, .int .i64 b, .string s] 149)
  have hadd : (⟨W.heap.size, 0, none⟩ : Addr).add j = ⟨W.heap.size, 0 + j, none⟩ := by unfold Addr.add; split <;> simp_all
  rw [hadd, Nat.zero_add]
  have hh' : (W.alloc (.cells #[.int .i64 a, .int .i64 b, .string s] 149)).drew.heap[W.heap.size]? = some (.cells #[.int .i64 a, .int .i64 b, .string s] 149) := hh
  match j, hj with
  | 0, hj => exact (cell_of_row _ _ 0 _ _ _ hh').trans hj
  | 1, hj => exact (cell_of_row _ _ 1 _ _ _ hh').trans hj
  | 2, hj => exact (cell_of_row _ _ 2 _ _ _ hh').trans hj
  | j + 3, hj => simp [FlC] at hj
def flV (f : Nat × Nat × ByteArray) : Value := .agg #[.int .i64 f.1, .int .i64 f.2.1, .string f.2.2]

set_option maxRecDepth 100000 in
set_option maxHeartbeats 4000000 in
theorem M_land {y : MG} {m : Msh} {w : World} (h : MM y m w) (i : Nat) (hi : i < m.air.length) (hl : m.air.length ≤ 1000) (f : Nat × Nat × ByteArray) (hf : m.air[i]? = some f) : Calls Tryz.prog 63 #[.pointer (some ⟨y.G, 0, none⟩), .int .i64 i] w fun e w' => e = .returned (flV f) ∧ MP y m { m with air := m.air.eraseIdx i } w w' := by
  have hb0 : Below w.heap.size w (w.alloc (.cells #[.int .i64 0, .int .i64 0, .string ⟨#[]⟩] 149)) := (Below.refl _ _).alloc (Nat.le_refl _) _
  have hC := heap_alloc_new w (.cells #[.int .i64 0, .int .i64 0, .string ⟨#[]⟩] 149)
  have h1 := h.later hb0
  obtain ⟨g, cap, hav, _⟩ := row_shape' h.air (by omega)
  have hgl : g < w.heap.size := (h.air.lt g (by rw [hav]; rfl)).2
  have hlt := fun k (hk : MIn y m k) => h.lt hk
  obtain ⟨a, b, s⟩ := f
  obtain ⟨q0, q1, q2⟩ := FlC_get hf
  dsimp only at q0 q1 q2
  have hil : (i : Int) < (m.air.length : Int) := by omega
  have hiw : wrap64 ((i : Int) + 1) = (i : Int) + 1 := by unfold wrap64; omega
  have hFl : FlC (m.air.eraseIdx i) = (FlC m.air).take (i * 3) ++ (FlC m.air).drop ((i + 1) * 3) := by
    rw [List.eraseIdx_eq_take_drop_succ, FlC_append, FlC_take, FlC_drop]
  have hln : (m.air.eraseIdx i).length = m.air.length - 1 := by rw [List.length_eraseIdx, if_pos hi]
  unfold flV
  dsimp only
  clear h
  go_enter Tryz.func63, Tryz.ntmps63
  go_upto_region 1 with (fail)
  generalize World.alloc _ _ = W1 at hb0 hC h1 ⊢
  have hr1 := h1.air
  rw [hav] at hr1
  have c2 := h1.cell.2.2.1
  rw [hav] at c2
  have d0 := (hr1.cellAt (i * 3) (by omega)).trans q0
  have d1 := (hr1.cellAt (i * 3 + 1) (by omega)).trans q1
  have d2 := (hr1.cellAt (i * 3 + 2) (by omega)).trans q2
  have hb1 : Below W1.heap.size W1 (W1.alloc (.cells #[.int .i64 a, .int .i64 b, .string s] 149)) := (Below.refl _ _).alloc (Nat.le_refl _) _
  have hD := heap_alloc_new W1 (.cells #[.int .i64 a, .int .i64 b, .string s] 149)
  have h2 := h1.later hb1
  have hC2 := (hb1.block _ (some_lt hC)).trans hC
  have hb2 := hb0.trans (hb1.mono hb0.size)
  have hCl := some_lt hC
  clear h1 hr1 hb0 hb1 hC q0 q1 q2
  go_upto_region 2 with (fail)
  generalize World.alloc _ _ = W2 at hD h2 hC2 hb2 ⊢
  generalize W1.heap.size = D at hD hCl ⊢
  clear c2 d0 d1 d2
  have hr2 := h2.air
  have c2 := h2.cell.2.2.1
  have f2 := h2.cell.2.2.2 2
  have HX := hide (DF.Delete_any 0 g m.air.length cap i (FlC m.air) W2 (by rw [← hav]; exact hr2) hi (by omega) (one_fl _))
  have HF : Hid (∀ w7 : World, w7.ownsRow 0 149 3 (.slice (some ⟨g, 0, none⟩) (m.air.length - 1) cap) (m.air.length - 1) ((FlC m.air).take (i * 3) ++ (FlC m.air).drop ((i + 1) * 3)) → W2.grownBy w7 (some g) → (w7.cell? ⟨y.G, 2, none⟩ = some y.av ∧ w7.frozen? ⟨y.G, 2, none⟩ = false) ∧ (∃ y', MM y' { m with air := m.air.eraseIdx i } (w7.setCell ⟨y.G, 2, none⟩ (.slice (some ⟨g, 0, none⟩) (m.air.length - 1) cap)) ∧ MU y m y' { m with air := m.air.eraseIdx i } w (w7.setCell ⟨y.G, 2, none⟩ (.slice (some ⟨g, 0, none⟩) (m.air.length - 1) cap)) ∧ ∀ k, MIn y' { m with air := m.air.eraseIdx i } k → k < w.heap.size) ∧ (w7.setCell ⟨y.G, 2, none⟩ (.slice (some ⟨g, 0, none⟩) (m.air.length - 1) cap)).heap[w.heap.size]? = some (.cells #[.int .i64 0, .int .i64 0, .string ⟨#[]⟩] 149) ∧ (w7.setCell ⟨y.G, 2, none⟩ (.slice (some ⟨g, 0, none⟩) (m.air.length - 1) cap)).heap[D]? = some (.cells #[.int .i64 a, .int .i64 b, .string s] 149)) := by
    intro w7 ho hg
    rw [← hFl, ← hln] at ho
    obtain ⟨k1, k2, k3⟩ := h2.fly ho (by rw [hav]; exact hg) (by rw [hav]; exact .inl rfl)
    have hsz := hg.size
    have hgG : w7.grownBy (w7.setCell ⟨y.G, 2, none⟩ (.slice (some ⟨g, 0, none⟩) (m.air.eraseIdx i).length cap)) (some y.G) := grown_cellOf (grown_self _ (some y.G)) 2 _
    have hwG : W2.heap[y.G]? = _ := h2.blk
    have hxg : ∀ k, k < W2.heap.size → k ≠ y.G → k ≠ g → (w7.setCell ⟨y.G, 2, none⟩ (.slice (some ⟨g, 0, none⟩) (m.air.eraseIdx i).length cap)).heap[k]? = W2.heap[k]? := fun k hk e1 e2 => (hgG.block k (Nat.lt_of_lt_of_le hk hsz) fun e => e1 (Option.some.inj e)).trans (hg.block k hk fun e => e2 (Option.some.inj e))
    rw [hln] at k2 k3 hxg
    refine ⟨k1, ⟨_, k2, k3.pre hb2, fun k hk => ?_⟩, (hxg _ (some_lt hC2) (fun e => ?_) fun e => ?_).trans hC2, (hxg _ (some_lt hD) (fun e => ?_) fun e => ?_).trans hD⟩
    · rcases hk with hk | hk | hk | hk
      · exact hlt k (.inl hk)
      · exact hlt k (.inr (.inl hk))
      · cases hk
        exact hgl
      · exact hlt k (.inr (.inr (.inr hk)))
    · rw [e, h2.blk] at hC2; cases hC2
    · omega
    · rw [e, h2.blk] at hD; cases hD
    · omega
  clear h2 hr2 hFl hln hC2 hD
  rw [hav] at c2
  go_wp2_with fail
  refine Calls.mono HX.out ?_
  rintro e w7 ⟨rfl, ho7, hg7⟩
  obtain ⟨⟨g1, g2⟩, hm, hCw, hDw⟩ := HF.out _ ho7 hg7
  rw [hav] at g1
  have z0 := cell_of_row _ _ 0 _ _ _ hCw
  have z1 := cell_of_row _ _ 1 _ _ _ hCw
  have z2 := cell_of_row _ _ 2 _ _ _ hCw
  have y0 := frozen_of_row _ w.heap.size 0 _ _ hCw
  have y1 := frozen_of_row _ w.heap.size 1 _ _ hCw
  have y2 := frozen_of_row _ w.heap.size 2 _ _ hCw
  have u0 := cell_of_row _ _ 0 _ _ _ hDw
  have u1 := cell_of_row _ _ 1 _ _ _ hDw
  have u2 := cell_of_row _ _ 2 _ _ _ hDw
  clear HX HF ho7 hg7 c2
  go_upto_region 3 with (fail)
  generalize World.setCell _ _ _ = W3 at hm hCw hDw z0 z1 z2 y0 y1 y2 u0 u1 u2 ⊢
  simp at z0 z1 z2 u0 u1 u2
  have hC7 : (((W3.setCell ⟨w.heap.size, 0, none⟩ (.int .i64 a)).setCell ⟨w.heap.size, 1, none⟩ (.int .i64 b)).setCell ⟨w.heap.size, 2, none⟩ (.string s)).heap[w.heap.size]? = some (.cells #[.int .i64 a, .int .i64 b, .string s] 149) := by
    simp [World.setCell, Array.getElem?_modify, hCw]
  have hgC : W3.grownBy (((W3.setCell ⟨w.heap.size, 0, none⟩ (.int .i64 a)).setCell ⟨w.heap.size, 1, none⟩ (.int .i64 b)).setCell ⟨w.heap.size, 2, none⟩ (.string s)) (some w.heap.size) := grown_cellOf (grown_cellOf (grown_cellOf (grown_self W3 (some w.heap.size)) 0 _) 1 _) 2 _
  have hm7 : MP y m { m with air := m.air.eraseIdx i } w (((W3.setCell ⟨w.heap.size, 0, none⟩ (.int .i64 a)).setCell ⟨w.heap.size, 1, none⟩ (.int .i64 b)).setCell ⟨w.heap.size, 2, none⟩ (.string s)) := by
    obtain ⟨y', k1, k2, k3⟩ := hm
    have hno : ∀ k, MIn y' { m with air := m.air.eraseIdx i } k → some k ≠ some w.heap.size := fun k hk e => by
      cases e
      have := k3 _ hk
      omega
    refine ⟨y', k1.kept fun k hk => hgC.block k (k1.lt hk) (hno k hk), ⟨grown_Fx k2.fx hgC (fun j hj e => by cases e; omega), fun k hk => (k2.sub k hk).imp_right fun h => ⟨h.1, Nat.lt_of_lt_of_le h.2 hgC.size⟩, k2.G, k2.n, k2.sv, k2.B⟩⟩
  clear hm hCw hDw hgC
  go_wp2_with fail
  generalize World.setCell _ _ _ = W7 at hC7 hm7 ⊢
  have p0 : W7.cell? ⟨w.heap.size, 0, none⟩ = some (.int .i64 a) := cell_of_row _ _ 0 _ _ _ hC7
  have p1 : W7.cell? ⟨w.heap.size, 1, none⟩ = some (.int .i64 b) := cell_of_row _ _ 1 _ _ _ hC7
  have p2 : W7.cell? ⟨w.heap.size, 2, none⟩ = some (.string s) := cell_of_row _ _ 2 _ _ _ hC7
  exact bodyPost_ret (v := .agg #[.int .i64 a, .int .i64 b, .string s]) (by simp [results, Tryz.results63, go_sem, p0, p1, p2]) rfl ⟨rfl, hm7⟩

set_option maxRecDepth 100000 in
set_option maxHeartbeats 4000000 in
theorem M_launch {y : MG} {m : Msh} {w : World} (h : MM y m w) (hl : m.air.length ≤ 500) (f : Nat × Nat × ByteArray) : Calls Tryz.prog 64 #[.pointer (some ⟨y.G, 0, none⟩), flV f] w fun e w' => e = .returned (.tuple #[]) ∧ MP y m (m.launch f) w w' := by
  obtain ⟨i0, hi, hz0, hz1, hz2⟩ := info_parts info_fl
  obtain ⟨a, b, s⟩ := f
  have hb0 : Below w.heap.size w (w.alloc (.cells #[.int .i64 a, .int .i64 b, .string s] 149)) := (Below.refl _ _).alloc (Nat.le_refl _) _
  have hC := heap_alloc_new w (.cells #[.int .i64 a, .int .i64 b, .string s] 149)
  have h1 := h.later hb0
  unfold flV
  dsimp only
  go_enter Tryz.func64, Tryz.ntmps64
  go_upto_region 1 with (fail)
  generalize World.alloc _ _ = W1 at hb0 hC h1 ⊢
  have hkb : ∀ o, Below W1.heap.size W1 (W1.alloc o).drew := fun o => ((Below.refl _ _).alloc (Nat.le_refl _) o).drew
  have hrow := fun o => (h1.later (hkb o)).air
  have hcf := cells_fl W1 a b s
  have hcm := fun o => (h1.later (hkb o)).cell.2.2.1
  have hc1 := h1.cell.2.2.1
  have t0 : W1.cell? ⟨w.heap.size, 0, none⟩ = some (.int .i64 a) := cell_of_row _ _ 0 _ _ _ hC
  have t1 : W1.cell? ⟨w.heap.size, 1, none⟩ = some (.int .i64 b) := cell_of_row _ _ 1 _ _ _ hC
  have t2 : W1.cell? ⟨w.heap.size, 2, none⟩ = some (.string s) := cell_of_row _ _ 2 _ _ _ hC
  have HF : Hid (∀ v7 w7, w7.ownsRow 0 149 3 v7 (m.air.length + 1) (FlC m.air ++ FlC [(a, b, s)]) → (W1.alloc (.cells #[.int .i64 a, .int .i64 b, .string s] 149)).drew.grownBy w7 y.av.ownBlock → (v7.ownBlock = y.av.ownBlock ∨ v7.ownBlock = some (W1.alloc (.cells #[.int .i64 a, .int .i64 b, .string s] 149)).drew.heap.size) → (w7.cell? ⟨y.G, 2, none⟩ = some y.av ∧ w7.frozen? ⟨y.G, 2, none⟩ = false) ∧ MM { y with av := v7 } { m with air := m.air ++ [(a, b, s)] } (w7.setCell ⟨y.G, 2, none⟩ v7) ∧ MU y m { y with av := v7 } { m with air := m.air ++ [(a, b, s)] } w (w7.setCell ⟨y.G, 2, none⟩ v7)) := by
    intro v7 w7 ho hg hv
    rw [← FlC_append, show m.air.length + 1 = (m.air ++ [(a, b, s)]).length by simp] at ho
    obtain ⟨q1, q2, q3⟩ := (h1.later (hkb _)).fly ho hg hv
    exact ⟨q1, q2, (q3.pre (hkb _)).pre hb0⟩
  have hlm : m.air.length + 1 ≤ maxLen := by unfold maxLen; omega
  have hl2 : (m.air.length + 1) * 32 ≤ 140737488355328 := by omega
  have hlaunch : m.launch (a, b, s) = if 48 < m.air.length + 1 then { m with air := (m.air ++ [(a, b, s)]).eraseIdx 0 } else { m with air := m.air ++ [(a, b, s)] } := by
    unfold Msh.launch
    simp only [List.length_append, List.length_cons, List.length_nil, List.eraseIdx_zero]
    split <;> rfl
  replace hlaunch := hide hlaunch
  clear h h1 hC hkb
  generalize w.heap.size = C at t0 t1 t2 ⊢
  go_cut [] from 4 to 13 (fun Wc => ∃ v7, MM { y with av := v7 } { m with air := m.air ++ [(a, b, s)] } Wc ∧ MU y m { y with av := v7 } { m with air := m.air ++ [(a, b, s)] } w Wc)
  case first =>
    go_region_law (refine step_append_at rfl (.tmp 8) (.tmp 10) 45 rfl 0 149 i0 (.agg #[.int .i64 0, .int .i64 0, .string ⟨#[]⟩]) 3 32 Tryz.underlying45 hi hz0 hz1 hz2 rfl (by decide) y.av m.air.length (FlC m.air) (by simp [Act.eval]) (hrow _) ⟨_, 0, none⟩ 1 1 (FlC [(a, b, s)]) (by simp [Act.eval]) rfl (hcf) (one_fl _) hlm hl2 (Nat.zero_le _) ?_; intro v7 w7 ho7 hg7 hv7; obtain ⟨⟨g1, g2⟩, hm⟩ := HF.out _ _ ho7 hg7 hv7; obtain ⟨ao7, cc7, rfl, _⟩ := row_form ho7)
    all_goals
      clear hg7 ho7
      go_wp2_with fail
      go_meet
      exact ⟨_, hm⟩
  case rest =>
    obtain ⟨v7, hm, hu⟩ := hcut
    have c2 := hm.cell.2.2.1
    obtain ⟨ao, cc, hv, _⟩ := row_form hm.air
    dsimp only at c2 hv
    rw [hv] at c2
    have hlen : (m.air ++ [(a, b, s)]).length = m.air.length + 1 := by simp
    have HL := fun (h48 : 48 < m.air.length + 1) => M_land hm 0 (by dsimp only; omega) (by dsimp only; omega) ((m.air ++ [(a, b, s)])[0]'(by omega)) (List.getElem?_eq_getElem (by dsimp only; omega))
    rw [hlen] at c2
    replace HL := hide HL
    have hl' := hlaunch.out
    clear hlaunch HF hrow hcf hcm hc1 t0 t1 t2
    by_cases h48 : 48 < m.air.length + 1
    · rw [if_pos h48] at hl'
      have h48' : (48 : Int) < (m.air.length : Int) + 1 := by omega
      have HL' := hide (HL.out h48)
      replace hl' := hide hl'
      clear hm HL
      go_wp2_with fail
      refine Calls.mono HL'.out ?_
      rintro e w3 ⟨rfl, hp⟩
      have hfin := MP.comp hu hp
      clear hp hu HL'
      go_wp2
      go_returns
      exact ⟨rfl, by rw [hl'.out]; exact hfin⟩
    · rw [if_neg h48] at hl'
      have h48' : ¬ (48 : Int) < (m.air.length : Int) + 1 := by omega
      have hfin : MP y m { m with air := m.air ++ [(a, b, s)] } w wc := ⟨_, hm, hu⟩
      replace hl' := hide hl'
      clear hm HL hu
      go_wp2
      go_returns
      exact ⟨rfl, by rw [hl'.out]; exact hfin⟩
end Go.Proofs.YtakaadcpaeiccabGreat

namespace Go.Proofs.YtakaadcpaeiccabGreat
open Go.RowKit Go.Maps

/-! What has happened, as a list in memory. -/
structure EvV where
  frm : Value
  cam : Value
  drp : Value
def evC1 (x : Ev × EvV) : List Value := [.int .i64 x.1.node, .int .i64 x.1.err, .string (strOfNums (flatR x.1.o.nws)), .bool x.1.o.rep, x.2.frm, x.2.cam, x.2.drp]
def EvC (L : List (Ev × EvV)) : List Value := L.flatMap evC1
def EvB (v : EvV) (k : Nat) : Prop := v.frm.ownBlock = some k ∨ v.cam.ownBlock = some k ∨ v.drp.ownBlock = some k
structure EvsM (b : Nat) (v : Value) (L : List (Ev × EvV)) (W : World) : Prop where
  row : W.ownsRow b 54 7 v L.length (EvC L)
  out : ∀ x ∈ L, OutR b x.1.o.frs x.1.o.cms x.1.o.drs x.2.frm x.2.cam x.2.drp W
  ap : L.Pairwise fun x y => ∀ k, EvB x.2 k → ¬ EvB y.2 k
theorem EvC_append (a b : List (Ev × EvV)) : EvC (a ++ b) = EvC a ++ EvC b := by simp [EvC]
theorem OutR.lt {b : Nat} {frs cms : List (Int × ByteArray)} {drs : List Int} {v : EvV} {W : World} (h : OutR b frs cms drs v.frm v.cam v.drp W) {k : Nat} (hk : EvB v k) : b ≤ k ∧ k < W.heap.size := by
  rcases hk with hk | hk | hk
  · exact h.frm.lt k hk
  · exact h.cam.lt k hk
  · exact h.drp.lt k hk
theorem one_ev {L : List (Ev × EvV)} (h : ∀ x ∈ L, x.2.frm.oneCell' = true ∧ x.2.cam.oneCell' = true ∧ x.2.drp.oneCell' = true) : ∀ u ∈ EvC L, u.oneCell' = true := by
  intro u hu
  obtain ⟨x, hx, hu⟩ := List.mem_flatMap.1 hu
  obtain ⟨h1, h2, h3⟩ := h x hx
  simp only [evC1, List.mem_cons, List.not_mem_nil, or_false] at hu
  rcases hu with rfl | rfl | rfl | rfl | rfl | rfl | rfl <;> first | rfl | assumption
theorem row_one {W : World} {base e size n : Nat} {v : Value} {xs : List Value} (h : W.ownsRow base e size v n xs) : v.oneCell' = true := by
  rcases h.2 with ⟨rfl, _⟩ | ⟨g, cap, cur, rfl, _⟩ <;> rfl
theorem EvsM.one {b : Nat} {v : Value} {L : List (Ev × EvV)} {W : World} (h : EvsM b v L W) : ∀ u ∈ EvC L, u.oneCell' = true := one_ev fun x hx => ⟨row_one (h.out x hx).frm, row_one (h.out x hx).cam, row_one (h.out x hx).drp⟩
/-- The kinds of what has happened. -/
def evK : List Nat := [54, 77, 56, 195]
theorem EvsM.at {b : Nat} {v : Value} {L : List (Ev × EvV)} {W W' : World} (h : EvsM b v L W) (he : ∀ (k : Nat) (c : Array Value) (t : Nat), t ∈ evK → W.heap[k]? = some (Obj.cells c t (0, 0)) → W'.heap[k]? = W.heap[k]?) : EvsM b v L W' :=
  ⟨row_at h.row fun k hk => by
    obtain ⟨c, hc⟩ := row_obj h.row hk
    exact he k c 54 (by decide) hc, fun x hx => (h.out x hx).at fun k c t ht hk => he k c t (by
      simp only [List.mem_cons, List.not_mem_nil, or_false] at ht
      simp only [evK, List.mem_cons, List.not_mem_nil, or_false]
      rcases ht with rfl | rfl | rfl <;> decide) hk, h.ap⟩
theorem EvsM.nil (b : Nat) (W : World) : EvsM b (.slice none 0 0) [] W := ⟨⟨rfl, .inl ⟨rfl, rfl⟩⟩, fun _ h => (by cases h), List.Pairwise.nil⟩
theorem MM.notE {y : MG} {m : Msh} {W : World} (h : MM y m W) {k : Nat} {c : Array Value} {t : Nat} (ht : t ∈ evK) (hk : W.heap[k]? = some (Obj.cells c t (0, 0))) : ¬ MIn y m k := h.not hk (by
  simp only [evK, List.mem_cons, List.not_mem_nil, or_false] at ht
  rcases ht with rfl | rfl | rfl | rfl <;> decide)
/-- What has happened stays where the mesh alone turns. -/
theorem EvsM.mesh {b : Nat} {v : Value} {L : List (Ev × EvV)} {y : MG} {m : Msh} {W W' : World} (h : EvsM b v L W) (hm : MM y m W) (hf : Fx (MIn y m) W W') : EvsM b v L W' := h.at fun k _ _ ht hk => hf.block k (some_lt hk) (hm.notE ht hk)
theorem OutR.mesh {b : Nat} {frs cms : List (Int × ByteArray)} {drs : List Int} {frm cam drp : Value} {y : MG} {m : Msh} {W W' : World} (h : OutR b frs cms drs frm cam drp W) (hm : MM y m W) (hf : Fx (MIn y m) W W') : OutR b frs cms drs frm cam drp W' := h.at fun k _ _ ht hk => hf.block k (some_lt hk) (hm.notE (by
  simp only [List.mem_cons, List.not_mem_nil, or_false] at ht
  simp only [evK, List.mem_cons, List.not_mem_nil, or_false]
  rcases ht with rfl | rfl | rfl <;> decide) hk)
theorem EvsM.later {b : Nat} {v : Value} {L : List (Ev × EvV)} {W W' : World} (h : EvsM b v L W) (hb : Below W.heap.size W W') : EvsM b v L W' := h.at fun k _ _ _ hk => hb.block k (some_lt hk)
theorem EvsM.lower {b b' : Nat} {v : Value} {L : List (Ev × EvV)} {W : World} (h : EvsM b v L W) (hb : b' ≤ b) : EvsM b' v L W := ⟨ownsRow_base_a h.row hb, fun x hx => (h.out x hx).lower hb, h.ap⟩
/-- More has happened: the second list behind the first one. -/
theorem EvsM.append {b c : Nat} {v v2 v' : Value} {L L2 : List (Ev × EvV)} {W W' : World} (h : EvsM b v L W) (h2 : EvsM c v2 L2 W) (hbc : b ≤ c) (hlt : ∀ x ∈ L, ∀ k, EvB x.2 k → k < c) (ho : W'.ownsRow b 54 7 v' (L.length + L2.length) (EvC L ++ EvC L2)) (hg : W.grownBy W' v.ownBlock) : EvsM b v' (L ++ L2) W' := by
  have hk : ∀ (k : Nat) (cs : Array Value) (t : Nat), t ∈ ([77, 56, 195] : List Nat) → W.heap[k]? = some (Obj.cells cs t (0, 0)) → W'.heap[k]? = W.heap[k]? := fun k cs t ht hk => hg.block k (some_lt hk) fun e => by
    obtain ⟨c', hc'⟩ := row_obj h.row e.symm
    rw [hk] at hc'
    cases hc'
    exact absurd ht (by decide)
  refine ⟨by rw [List.length_append, EvC_append]; exact ho, fun x hx => ?_, List.pairwise_append.2 ⟨h.ap, h2.ap, fun x hx z hz k e1 e2 => ?_⟩⟩
  · rcases List.mem_append.1 hx with hx | hx
    · exact (h.out x hx).at hk
    · exact ((h2.out x hx).lower hbc).at hk
  · have q1 := hlt x hx k e1
    have q2 := ((h2.out z hz).lt e2).1
    omega
theorem EvsM.lt {b : Nat} {v : Value} {L : List (Ev × EvV)} {W : World} (h : EvsM b v L W) : ∀ x ∈ L, ∀ k, EvB x.2 k → k < W.heap.size := fun x hx _ hk => ((h.out x hx).lt hk).2
theorem info_ev : (Tryz.prog.info? 54).map (fun i => (i.zero, i.size, i.bytes)) = some (some (.agg #[.int .i64 0, .int .i64 0, .string ⟨#[]⟩, .bool false, .slice none 0 0, .slice none 0 0, .slice none 0 0]), 7, 112) := by kernel_rfl
/-- One event alone, just made. -/
theorem ev_one {b : Nat} {W : World} {x : Ev × EvV} (hb : b ≤ W.heap.size) (ho : OutR b x.1.o.frs x.1.o.cms x.1.o.drs x.2.frm x.2.cam x.2.drp W) : EvsM b (.slice (some ⟨W.heap.size, 0, none⟩) 1 1) [x] (W.alloc (.cells (evC1 x).toArray 54)) := by
  refine ⟨⟨rfl, .inr ⟨W.heap.size, 1, _, rfl, hb, heap_alloc_new _ _, Nat.le_refl _, by decide, rfl, ?_⟩⟩, fun z hz => ?_, List.pairwise_singleton _ _⟩
  · simp [EvC, evC1]
  · rw [List.mem_singleton] at hz
    subst hz
    exact ho.later ((Below.refl _ _).alloc (Nat.le_refl _) _)
end Go.Proofs.YtakaadcpaeiccabGreat
