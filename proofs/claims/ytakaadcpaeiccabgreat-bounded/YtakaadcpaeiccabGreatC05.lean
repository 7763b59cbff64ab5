import Derived.Test.YtakaadcpaeiccabGreatC04
import Derived.Laws.IdiomStrings
import Derived.Deep.RegionHeld3
import Derived.Lib.Bytes
namespace Go.Proofs.YtakaadcpaeiccabGreat
open Go.RowKit

theorem conv_rest {W : World} {v : Value} {xs : List Int} (h : RestV W v xs) : (convert 58 9 v).run Tryz.prog W = .ok (.string (strOfNums xs)) W := by
  rcases h.2 with ⟨rfl, rfl⟩ | ⟨b, o, c, rfl, _, _, h3⟩
  · exact run_convert_bytes_nil (P := Tryz.prog) W 58 5 Tryz.underlying58 Tryz.underlying5 0 0 9 Tryz.underlying9
  · refine run_convert_bytes_arg (P := Tryz.prog) W 58 5 Tryz.underlying58 Tryz.underlying5 b o xs.length c xs rfl ?_ 9 Tryz.underlying9
    intro i hi
    rw [h3 i xs[i] (List.getElem?_eq_getElem hi)]
    simp [hi]

theorem b4_b {n : Int} (h0 : 0 ≤ n) (h1 : n < 4294967296) : ∀ x ∈ b4 n, 0 ≤ x ∧ x ≤ 255 := by
  intro x hx
  simp only [b4, List.mem_cons, List.not_mem_nil, or_false] at hx
  rcases hx with rfl | rfl | rfl | rfl <;> omega
theorem strNums_b (s : ByteArray) : ∀ x ∈ strNums s, 0 ≤ x ∧ x ≤ 255 := by
  intro x hx
  simp only [strNums, List.mem_map] at hx
  obtain ⟨b, _, rfl⟩ := hx
  have := b.toNat_lt
  omega
theorem rest_row {W : World} {base : Nat} {v : Value} {xs : List Int} (h : W.ownsRow base 5 1 v xs.length (U xs)) (hb : ∀ x ∈ xs, 0 ≤ x ∧ x ≤ 255) : RestV W v xs := by
  refine ⟨hb, ?_⟩
  rcases id h.2 with ⟨rfl, h0⟩ | ⟨g, cap, cur, rfl, _, _, h1, h2, _⟩
  · exact .inl ⟨rfl, List.eq_nil_of_length_eq_zero h0⟩
  · refine .inr ⟨g, 0, cap, rfl, h1, by unfold maxLen at h2; omega, fun j x hx => ?_⟩
    have hj : j < xs.length := by
      rcases Nat.lt_or_ge j xs.length with h | h
      · exact h
      · rw [List.getElem?_eq_none h] at hx; cases hx
    rw [Nat.zero_add, h.cellAt j (by omega)]
    simp [U, hx]

theorem rest_new (s : ByteArray) (hs : s.size ≤ 65536) (w : World) (fz : Nat × Nat) : RestV (w.drew.alloc (.cells (bytesRow s (grownCap w s.size 0 5)) 5 fz)) (.slice (some ⟨w.heap.size, 0, none⟩) s.size (grownCap w s.size 0 5)) (strNums s) := by
  refine ⟨strNums_b s, .inr ⟨w.heap.size, 0, _, by rw [strNums_length], by rw [strNums_length]; exact grownCap_ge _ _ _ _, ?_, fun j x hx => ?_⟩⟩
  · exact grownCap_le_maxLen w s.size 0 _ (by unfold maxLen; omega)
  · have hj : j < s.size := by
      rcases Nat.lt_or_ge j s.size with h | h
      · exact h
      · rw [List.getElem?_eq_none (by rw [strNums_length]; exact h)] at hx; cases hx
    have hh := heap_alloc_new w.drew (.cells (bytesRow s (grownCap w s.size 0 5)) 5 fz)
    rw [Nat.zero_add]
    refine (cell_of_row _ _ j _ _ _ hh).trans ?_
    unfold bytesRow
    rw [Array.getElem?_append_left (by simpa using hj)]
    simp only [strNums, List.getElem?_map] at hx
    simp only [Array.getElem?_map]
    cases hq : s.data[j]? with
    | none => simp [hq] at hx
    | some b =>
      simp [hq] at hx
      subst hx
      rfl

/-- A row of bytes of which the first n may be written. -/
def BRow (g n : Nat) (W : World) : Prop := ∃ (cur : Array Value) (lo hi : Nat), W.heap[g]? = some (.cells cur 5 (lo, hi)) ∧ n ≤ lo ∧ n ≤ cur.size
theorem BRow.frozen {g n j : Nat} {W : World} (h : BRow g n W) (hj : j < n) : W.frozen? ⟨g, j, none⟩ = false := by
  obtain ⟨cur, lo, hi, h1, h2, _⟩ := h
  simp [World.frozen?, h1]
  omega
theorem BRow.cell {g n j : Nat} {W : World} (h : BRow g n W) (hj : j < n) : ∃ u, W.cell? ⟨g, j, none⟩ = some u := by
  obtain ⟨cur, lo, hi, h1, _, h3⟩ := h
  refine ⟨cur[j], ?_⟩
  rw [cell_of_row W g j cur _ _ h1]
  exact Array.getElem?_eq_getElem (by omega)
theorem BRow.set {g n : Nat} {W : World} (h : BRow g n W) (j : Nat) (v : Value) : BRow g n (W.setCell ⟨g, j, none⟩ v) := by
  obtain ⟨cur, lo, hi, h1, h2, h3⟩ := h
  refine ⟨cur.setIfInBounds j v, lo, hi, ?_, h2, by simpa using h3⟩
  simp [World.setCell, Array.getElem?_modify, h1]
theorem BRow.block {g n : Nat} {W W' : World} (h : BRow g n W) (e : W'.heap[g]? = W.heap[g]?) : BRow g n W' := by
  obtain ⟨cur, lo, hi, h1, h2, h3⟩ := h
  exact ⟨cur, lo, hi, e.trans h1, h2, h3⟩
theorem BRow.lt {g n : Nat} {W : World} (h : BRow g n W) : g < W.heap.size := by
  obtain ⟨cur, lo, hi, h1, _, _⟩ := h
  exact (Array.getElem?_eq_some_iff.1 h1).1
theorem grown_self (A : World) (r : Option Nat) : A.grownBy A r := ⟨rfl, rfl, rfl, Nat.le_refl _, fun _ _ _ => rfl⟩
theorem grown_cellOf {A B : World} {g : Nat} (h : A.grownBy B (some g)) (j : Nat) (v : Value) : A.grownBy (B.setCell ⟨g, j, none⟩ v) (some g) :=
  ⟨h.os, h.tape, h.output, by simpa using h.size, fun i hi hne => (Below.heap_setCell B ⟨g, j, none⟩ v i (fun e => hne (by rw [e]))).trans (h.block i hi hne)⟩

theorem RestV.kept {W W' : World} {v : Value} {xs : List Int} (h : RestV W v xs) (hb : Below W.heap.size W W') : RestV W' v xs := by
  refine ⟨h.1, ?_⟩
  rcases h.2 with h | ⟨b, o', c, rfl, k1, k2, k3⟩
  · exact .inl h
  · exact .inr ⟨b, o', c, rfl, k1, k2, fun j x hx => (hb.cell (World.block_lt_of_cell? W _ (k3 j x hx))).trans (k3 j x hx)⟩

theorem Rd.kept {R : Nat} {xs : List Int} {W W' : World} (h : Rd R xs W) (hb : Below W.heap.size W W') : Rd R xs W' := by
  obtain ⟨v, h1, h2, hx, h3⟩ := h
  have hlt := World.block_lt_of_cell? W _ h1
  refine ⟨v, (hb.cell hlt).trans h1, (hb.frozen hlt).trans h2, hx, ?_⟩
  rcases h3 with h | ⟨b, o', c, rfl, k1, k2, k3⟩
  · exact .inl h
  · exact .inr ⟨b, o', c, rfl, k1, k2, fun j x hx => (hb.cell (World.block_lt_of_cell? W _ (k3 j x hx))).trans (k3 j x hx)⟩
end Go.Proofs.YtakaadcpaeiccabGreat

namespace Go.Proofs.YtakaadcpaeiccabGreat
open Go.RowKit

/-- A record as the walks have it. -/
@[reducible] def recV (o : Bool) (a s : Int) : Value := .agg #[.bool o, .int .u32 a, .int .u32 s]
@[reducible] def recBox (o : Bool) (a s : Int) : Obj := .cells #[.bool o, .int .u32 a, .int .u32 s] 82
/-- The nine bytes of a record, and all thirteen. -/
def recH (o : Bool) (a s : Int) : List Int := (if o then 1 else 2) :: (b4 (if o then 0 else a) ++ b4 s)
def recB (o : Bool) (a s : Int) : List Int := recH o a s ++ b4 (crc (recH o a s))
theorem recH_length (o : Bool) (a s : Int) : (recH o a s).length = 9 := rfl
theorem recH_b {o : Bool} {a s : Int} (a0 : 0 ≤ a) (a1 : a < 4294967296) (s0 : 0 ≤ s) (s1 : s < 4294967296) : ∀ x ∈ recH o a s, 0 ≤ x ∧ x ≤ 255 := by
  intro x hx
  simp only [recH, List.mem_cons, List.mem_append] at hx
  rcases hx with rfl | hx | hx
  · cases o <;> simp
  · cases o
    · exact b4_b a0 a1 x hx
    · exact b4_b (by simp) (by simp) x hx
  · exact b4_b s0 s1 x hx
theorem recB_b {o : Bool} {a s : Int} (a0 : 0 ≤ a) (a1 : a < 4294967296) (s0 : 0 ≤ s) (s1 : s < 4294967296) : ∀ x ∈ recB o a s, 0 ≤ x ∧ x ≤ 255 := by
  have hh := recH_b (o := o) a0 a1 s0 s1
  intro x hx
  rcases List.mem_append.1 hx with hx | hx
  · exact hh x hx
  · have := crc_b hh
    exact b4_b this.1 this.2 x hx

/-- What a record's box holds where a statement reads it. -/
@[reducible] def RcS (a s : Int) (w W : World) : Prop :=
  W.cell? ⟨w.heap.size, 1, none⟩ = some (.int .u32 a) ∧ W.cell? ⟨w.heap.size, 2, none⟩ = some (.int .u32 s) ∧ w.heap.size < W.heap.size ∧ Below w.heap.size w W
theorem RcS.start (o : Bool) (a s : Int) (w : World) : RcS a s w (w.alloc (recBox o a s)) :=
  ⟨World.cell?_alloc_new w _ _ _, World.cell?_alloc_new w _ _ _, by simp, (Below.refl _ _).alloc (Nat.le_refl _) _⟩
theorem RcS.drew {a s : Int} {w W : World} (h : RcS a s w W) : RcS a s w W.drew := ⟨h.1, h.2.1, h.2.2.1, h.2.2.2.drew⟩
theorem RcS.alloc {a s : Int} {w W : World} (h : RcS a s w W) (o : Obj) : RcS a s w (W.alloc o) := by
  have hb : Below W.heap.size W (W.alloc o) := (Below.refl _ _).alloc (Nat.le_refl _) _
  exact ⟨(hb.cell (p := ⟨w.heap.size, 1, none⟩) h.2.2.1).trans h.1, (hb.cell (p := ⟨w.heap.size, 2, none⟩) h.2.2.1).trans h.2.1, by simp; have := h.2.2.1; omega, h.2.2.2.alloc (Nat.le_of_lt h.2.2.1) _⟩
theorem RcS.grown {a s : Int} {w W W1 : World} {v : Value} {n : Nat} {xs : List Value} (h : RcS a s w W) (ho : W.ownsRow (w.heap.size + 1) 5 1 v n xs) (hg : W.grownBy W1 v.ownBlock) : RcS a s w W1 := by
  have hne : some w.heap.size ≠ v.ownBlock := fun e => by have := (ho.lt _ e.symm).1; omega
  have hb : Below (w.heap.size + 1) W W1 := (Below.refl _ _).grown hg h.2.2.1 fun k hk => (ho.lt k hk).1
  exact ⟨hg.cell h.1 hne, hg.cell h.2.1 hne, Nat.lt_of_lt_of_le h.2.2.1 hg.size, h.2.2.2.trans (hb.mono (Nat.le_succ _))⟩
theorem own_one (base : Nat) (w : World) (x0 : Int) (hb : base ≤ w.heap.size) :
    (w.alloc (.cells #[.int .u8 x0] 5)).ownsRow base 5 1 (.slice (some ⟨w.heap.size, 0, none⟩) 1 1) [x0].length (U [x0]) :=
  ⟨rfl, .inr ⟨w.heap.size, 1, _, rfl, hb, heap_alloc_new w _, Nat.le_refl _, by decide, rfl, rfl⟩⟩

set_option maxRecDepth 100000 in
set_option maxHeartbeats 1000000 in
theorem WriteRecord_any (o : Bool) (a s : Int) (a0 : 0 ≤ a) (a1 : a < 4294967296) (s0 : 0 ≤ s) (s1 : s < 4294967296) (w : World) :
    Calls Tryz.prog 23 #[recV o a s] w fun e w' => ∃ v, e = .returned v ∧ Below w.heap.size w w' ∧ v ≠ .slice none 0 0 ∧ w'.ownsRow (w.heap.size + 1) 5 1 v 13 (U (recB o a s)) := by
  cases o
  · have hS := RcS.start false a s w
    dsimp only [recBox] at hS
    have hl1 : w.heap.size < (w.alloc (recBox false a s)).heap.size := by simp
    dsimp only [recBox] at hl1
    go_enter Tryz.func23, Tryz.ntmps23
    go_wp2_with fail
    generalize World.alloc _ _ = W0 at hS hl1 ⊢
    have own0 := (own_one (w.heap.size + 1) W0 2 hl1).drew
    go_region_held3 (RcS a s w) (first | exact RcS.drew (by assumption) | assumption | exact RcS.alloc (by assumption) _ | exact RcS.grown (by assumption) own0 hgrow5 | exact RcS.grown (by assumption) hown5 hgrow6) (first
      | (go_at_call_of 57 (Value.int IntKind.u32 a); refine (appendNumber_any (w.heap.size + 1) _ a [2] _ a0 a1 own0 (by simp) (by simp; omega) (by simp)).mono ?_; rintro e w5 ⟨v5, rfl, hown5, hgrow5, hnn5⟩)
      | (go_at_call_of 57 (Value.int IntKind.u32 s); refine (appendNumber_any (w.heap.size + 1) _ s ([2] ++ b4 a) _ s0 s1 hown5 hnn5 (Nat.le_trans (Nat.le_of_lt (by simp; omega)) hgrow5.size) (by simp [b4_length])).mono ?_; rintro e w6 ⟨v6, rfl, hown6, hgrow6, hnn6⟩))
    rename_i hS6
    have hb : ∀ x ∈ recH false a s, 0 ≤ x ∧ x ≤ 255 := recH_b a0 a1 s0 s1
    have hown7 : w6.ownsRow (w.heap.size + 1) 5 1 v6 (recH false a s).length (U (recH false a s)) := hown6
    have hr := rest_row hown7 hb
    have hc := crc_b hb
    clear hown6 hgrow6 hown5 hgrow5 own0 hS hl1 hnn5
    go_wp2_with fail
    refine (sum_any _ (recH false a s) _ hr).mono ?_
    rintro e w7 ⟨rfl, rfl⟩
    go_wp2_with fail
    refine (appendNumber_any (w.heap.size + 1) _ _ (recH false a s) _ hc.1 hc.2 hown7 hnn6 hS6.2.2.1 (by rw [recH_length]; omega)).mono ?_
    rintro e w8 ⟨v8, rfl, hown8, hgrow8, hnn8⟩
    go_wp2_with fail
    go_ret
    exact ⟨v8, rfl, hS6.2.2.2.grown hgrow8 (Nat.le_of_lt hS6.2.2.1) (fun k hk => Nat.le_of_succ_le (hown7.lt k hk).1), hnn8, hown8⟩
  · have hS := RcS.start true 0 s w
    dsimp only [recBox] at hS
    have hl1 : w.heap.size < (w.alloc (recBox true 0 s)).heap.size := by simp
    dsimp only [recBox] at hl1
    go_enter Tryz.func23, Tryz.ntmps23
    go_wp2_with fail
    generalize World.alloc _ _ = W0 at hS hl1 ⊢
    have own0 := (own_one (w.heap.size + 1) W0 1 hl1).drew
    go_region_held3 (RcS 0 s w) (first | exact RcS.drew (by assumption) | assumption | exact RcS.alloc (by assumption) _ | exact RcS.grown (by assumption) own0 hgrow5 | exact RcS.grown (by assumption) hown5 hgrow6) (first
      | (go_at_call_of 57 (Value.int IntKind.u32 0); refine (appendNumber_any (w.heap.size + 1) _ 0 [1] _ (by decide) (by decide) own0 (by simp) (by simp; omega) (by simp)).mono ?_; rintro e w5 ⟨v5, rfl, hown5, hgrow5, hnn5⟩)
      | (go_at_call_of 57 (Value.int IntKind.u32 s); refine (appendNumber_any (w.heap.size + 1) _ s ([1] ++ b4 0) _ s0 s1 hown5 hnn5 (Nat.le_trans (Nat.le_of_lt (by simp; omega)) hgrow5.size) (by simp [b4_length])).mono ?_; rintro e w6 ⟨v6, rfl, hown6, hgrow6, hnn6⟩))
    rename_i hS6
    have hb : ∀ x ∈ recH true 0 s, 0 ≤ x ∧ x ≤ 255 := recH_b (by decide) (by decide) s0 s1
    have hown7 : w6.ownsRow (w.heap.size + 1) 5 1 v6 (recH true 0 s).length (U (recH true 0 s)) := hown6
    have hr := rest_row hown7 hb
    have hc := crc_b hb
    clear hown6 hgrow6 hown5 hgrow5 own0 hS hl1 hnn5
    go_wp2_with fail
    refine (sum_any _ (recH true 0 s) _ hr).mono ?_
    rintro e w7 ⟨rfl, rfl⟩
    go_wp2_with fail
    refine (appendNumber_any (w.heap.size + 1) _ _ (recH true 0 s) _ hc.1 hc.2 hown7 hnn6 hS6.2.2.1 (by rw [recH_length]; omega)).mono ?_
    rintro e w8 ⟨v8, rfl, hown8, hgrow8, hnn8⟩
    go_wp2_with fail
    go_ret
    exact ⟨v8, rfl, hS6.2.2.2.grown hgrow8 (Nat.le_of_lt hS6.2.2.1) (fun k hk => Nat.le_of_succ_le (hown7.lt k hk).1), hnn8, hown8⟩
end Go.Proofs.YtakaadcpaeiccabGreat

namespace Go.Proofs.YtakaadcpaeiccabGreat
open Go.RowKit

def n4 (a b c d : Int) : Int := a * 16777216 + b * 65536 + c * 256 + d

theorem or_low (x y : Int) (hx : 0 ≤ x) (hx1 : x < 16777216) (hy : 0 ≤ y) (hy1 : y ≤ 255) : bits .or .u32 (x * 256) y = x * 256 + y := by
  rw [bits_join .u32 32 (by decide) wraps_u32 8 (x * 256) y (by omega) (by omega) (by omega) hy (by omega) (by omega)]

set_option maxRecDepth 100000 in
set_option maxHeartbeats 1000000 in
/-- Reading a number. -/
theorem number_any (R : Nat) (xs : List Int) (W : World) (h : Rd R xs W) :
    Calls Tryz.prog 87 #[.pointer (some ⟨R, 0, none⟩)] W fun e w' => (∃ a b c d ys, xs = a :: b :: c :: d :: ys ∧ e = .returned (.int .u32 (n4 a b c d)) ∧ Rd R ys w' ∧ W.grownBy w' (some R) ∧ Below R W w') ∨ (xs.length < 4 ∧ e = .panicked broken ∧ w' = W) := by
  go_enter Tryz.func87, Tryz.ntmps87
  go_wp2_with fail
  refine (take_any R 4 xs W h).mono ?_
  rintro e w1 (⟨hn, ⟨v, rfl, hv⟩, hrd, hg, hbl⟩ | ⟨hn, rfl, rfl⟩)
  · obtain ⟨x0, x1, x2, x3, ys, rfl⟩ : ∃ a b c d ys, xs = a :: b :: c :: d :: ys := by
      match xs, hn with
      | a :: b :: c :: d :: ys, _ => exact ⟨a, b, c, d, ys, rfl⟩
    obtain ⟨p0, q0, b, o, c, hv', c0⟩ := rest_cell hv (j := 0) (x := x0) rfl
    simp only [List.take_succ_cons, List.take_zero, List.length_cons, List.length_nil, Nat.zero_add, Nat.add_zero, Nat.reduceAdd] at hv' c0
    subst hv'
    obtain ⟨p1, q1, b1, o1, d1, e1, c1⟩ := rest_cell hv (j := 1) (x := x1) rfl
    obtain ⟨p2, q2, b2, o2, d2, e2, c2⟩ := rest_cell hv (j := 2) (x := x2) rfl
    obtain ⟨p3, q3, b3, o3, d3, e3, c3⟩ := rest_cell hv (j := 3) (x := x3) rfl
    simp only [Value.slice.injEq, Option.some.injEq, Addr.mk.injEq, and_true] at e1 e2 e3
    obtain ⟨⟨rfl, rfl⟩, h41, rfl⟩ := e1
    clear h41
    obtain ⟨⟨rfl, rfl⟩, h42, rfl⟩ := e2
    clear h42
    obtain ⟨⟨rfl, rfl⟩, h43, rfl⟩ := e3
    clear h43
    have hrd' : Rd R ys w1 := hrd
    clear hv hrd hn h
    go_wp2_with fail
    go_loop [3, 9] (fun n i => (i = .int .i64 0 ∧ n = .int .u32 0) ∨ (i = .int .i64 1 ∧ n = .int .u32 x0) ∨ (i = .int .i64 2 ∧ n = .int .u32 (x0 * 256 + x1)) ∨ (i = .int .i64 3 ∧ n = .int .u32 ((x0 * 256 + x1) * 256 + x2)) ∨ (i = .int .i64 4 ∧ n = .int .u32 (((x0 * 256 + x1) * 256 + x2) * 256 + x3))) (fun _ i => 4 - (intOf i).toNat)
    case atStart => exact .inl ⟨rfl, rfl⟩
    case round =>
      have k0 : Hid (bits .or .u32 0 x0 = x0) := by
        have := or_low 0 x0 (by omega) (by omega) p0 q0
        show bits .or .u32 0 x0 = x0
        simpa using this
      have k1 : Hid _ := or_low x0 x1 p0 (by omega) p1 q1
      have k2 : Hid _ := or_low (x0 * 256 + x1) x2 (by omega) (by omega) p2 q2
      have k3 : Hid _ := or_low ((x0 * 256 + x1) * 256 + x2) x3 (by omega) (by omega) p3 q3
      rcases hrel with ⟨rfl, rfl⟩ | ⟨rfl, rfl⟩ | ⟨rfl, rfl⟩ | ⟨rfl, rfl⟩ | ⟨rfl, rfl⟩
      · clear c1 c2 c3
        go_wp2
        go_round
        case rel => exact .inr (.inl ⟨rfl, by rw [k0.out]⟩)
        case measure => simp [intOf]
      · clear c0 c2 c3
        go_wp2
        go_round
        case rel => exact .inr (.inr (.inl ⟨rfl, by rw [k1.out]⟩))
        case measure => simp [intOf]
      · clear c0 c1 c3
        go_wp2
        go_round
        case rel => exact .inr (.inr (.inr (.inl ⟨rfl, by rw [k2.out]⟩)))
        case measure => simp [intOf]
      · clear c0 c1 c2
        go_wp2
        go_round
        case rel => exact .inr (.inr (.inr (.inr ⟨rfl, by rw [k3.out]⟩)))
        case measure => simp [intOf]
      · go_wp2
        go_ret
        refine .inl ⟨x0, x1, x2, x3, ys, ⟨rfl, rfl, rfl, rfl, rfl⟩, ret_int ?_, hrd', hg, hbl⟩
        unfold n4
        omega
  · exact ⟨rfl, .inr ⟨by omega, rfl, rfl⟩⟩
end Go.Proofs.YtakaadcpaeiccabGreat

namespace Go.Proofs.YtakaadcpaeiccabGreat
open Go.RowKit

theorem strNums_of {xs : List Int} (h : ∀ x ∈ xs, 0 ≤ x ∧ x ≤ 255) : strNums (strOfNums xs) = xs := by
  unfold strNums
  rw [strOfNums_data, List.map_map]
  conv => rhs; rw [← List.map_id xs]
  refine List.map_congr_left fun x hx => ?_
  have := h x hx
  simp only [Function.comp_apply, id, UInt8.toNat_ofNat']
  omega
theorem strEq {xs ys : List Int} (hx : ∀ x ∈ xs, 0 ≤ x ∧ x ≤ 255) (hy : ∀ x ∈ ys, 0 ≤ x ∧ x ≤ 255) : ((strOfNums xs).toList == (strOfNums ys).toList) = decide (xs = ys) := by
  rw [Bool.eq_iff_iff]
  simp only [beq_iff_eq, decide_eq_true_eq]
  constructor
  · intro h
    rw [← strNums_of hx, ← strNums_of hy]
    unfold strNums
    have : (strOfNums xs).data.toList = (strOfNums ys).data.toList := by
      rw [Lib.strOfNums_toList, Lib.strOfNums_toList] at h
      exact h
    rw [this]
  · rintro rfl
    rfl

set_option maxHeartbeats 1000000 in
theorem Equal_any (v u : Value) (xs ys : List Int) (w : World) (hv : RestV w v xs) (hu : RestV w u ys) :
    Calls Tryz.prog 101 #[v, u] w fun e w' => e = .returned (.bool (decide (xs = ys))) ∧ w' = w := by
  have h1 := conv_rest hv
  have h2 := conv_rest hu
  have hx := hv.1
  have hy := hu.1
  clear hv hu
  go_enter Tryz.func101, Tryz.ntmps101
  go_wp2
  go_ret
  exact ⟨ret_bool (strEq hx hy), rfl⟩
end Go.Proofs.YtakaadcpaeiccabGreat

namespace Go.Proofs.YtakaadcpaeiccabGreat
open Go.RowKit

/-- A block that is a record's box. -/
def RBk (B : Nat) (o : Bool) (a s : Int) (W : World) : Prop := W.heap[B]? = some (recBox o a s)
theorem RBk.cell {B : Nat} {o : Bool} {a s : Int} {W : World} (h : RBk B o a s W) :
    W.cell? ⟨B, 0, none⟩ = some (.bool o) ∧ W.cell? ⟨B, 1, none⟩ = some (.int .u32 a) ∧ W.cell? ⟨B, 2, none⟩ = some (.int .u32 s) :=
  ⟨cell_of_row W B 0 _ _ _ h, cell_of_row W B 1 _ _ _ h, cell_of_row W B 2 _ _ _ h⟩
theorem RBk.free {B : Nat} {o : Bool} {a s : Int} {W : World} (h : RBk B o a s W) (i : Nat) : W.frozen? ⟨B, i, none⟩ = false := by
  unfold RBk at h
  simp [World.frozen?, h]
theorem RBk.lt {B : Nat} {o : Bool} {a s : Int} {W : World} (h : RBk B o a s W) : B < W.heap.size := (Array.getElem?_eq_some_iff.1 h).1
theorem RBk.below {B N : Nat} {o : Bool} {a s : Int} {W W' : World} (h : RBk B o a s W) (hb : Below N W W') (hN : B < N) : RBk B o a s W' := (hb.block _ hN).trans h
theorem RBk.later {B : Nat} {o : Bool} {a s : Int} {W W' : World} (h : RBk B o a s W) (hb : Below W.heap.size W W') : RBk B o a s W' := h.below hb h.lt
theorem RBk.new (o : Bool) (a s : Int) (W : World) : RBk W.heap.size o a s (W.alloc (recBox o a s)) := heap_alloc_new W _

/-- A record stored whole. -/
@[reducible] def store3 (W : World) (B : Nat) (o : Bool) (a s : Int) : World := ((W.setCell ⟨B, 0, none⟩ (.bool o)).setCell ⟨B, 1, none⟩ (.int .u32 a)).setCell ⟨B, 2, none⟩ (.int .u32 s)
theorem RBk.store {B : Nat} {o : Bool} {a s : Int} {W : World} (h : RBk B o a s W) (o' : Bool) (a' s' : Int) : RBk B o' a' s' (store3 W B o' a' s') := by
  unfold RBk at h ⊢
  simp [World.setCell, Array.getElem?_modify, h]
theorem below_store3 {N B : Nat} {w W : World} (h : Below N w W) (hN : N ≤ B) (o : Bool) (a s : Int) : Below N w (store3 W B o a s) :=
  ((h.setCell (p := ⟨B, 0, none⟩) hN _).setCell (p := ⟨B, 1, none⟩) hN _).setCell (p := ⟨B, 2, none⟩) hN _

theorem free_of {W : World} {B : Nat} {c : Array Value} {e : TypeId} (h : W.heap[B]? = some (.cells c e (0, 0))) (i : Nat) : W.frozen? ⟨B, i, none⟩ = false := by
  simp [World.frozen?, h]

/-- What thirteen bytes say, and whether they are a record. -/
def rO (xs : List Int) : Bool := xs.getD 0 0 == 1
def rA (xs : List Int) : Int := n4 (xs.getD 1 0) (xs.getD 2 0) (xs.getD 3 0) (xs.getD 4 0)
def rS (xs : List Int) : Int := n4 (xs.getD 5 0) (xs.getD 6 0) (xs.getD 7 0) (xs.getD 8 0)
def okR (xs : List Int) : Bool := decide (13 ≤ xs.length) && decide (xs.take 13 = recB (rO xs) (rA xs) (rS xs))

theorem n4_b' {a b c d : Int} (ha : 0 ≤ a ∧ a ≤ 255) (hb : 0 ≤ b ∧ b ≤ 255) (hc : 0 ≤ c ∧ c ≤ 255) (hd : 0 ≤ d ∧ d ≤ 255) : 0 ≤ n4 a b c d ∧ n4 a b c d < 4294967296 := by
  unfold n4
  omega

theorem list13 {xs : List Int} (h : 13 ≤ xs.length) : ∃ x0 x1 x2 x3 x4 x5 x6 x7 x8 x9 x10 x11 x12 ys, xs = x0 :: x1 :: x2 :: x3 :: x4 :: x5 :: x6 :: x7 :: x8 :: x9 :: x10 :: x11 :: x12 :: ys := by
  match xs, h with
  | x0 :: x1 :: x2 :: x3 :: x4 :: x5 :: x6 :: x7 :: x8 :: x9 :: x10 :: x11 :: x12 :: ys, _ => exact ⟨x0, x1, x2, x3, x4, x5, x6, x7, x8, x9, x10, x11, x12, ys, rfl⟩

set_option maxRecDepth 100000 in
set_option maxHeartbeats 1000000 in
theorem readRecord_short (v : Value) (xs : List Int) (w : World) (hv : RestV w v xs) (hs : xs.length < 13) :
    Calls Tryz.prog 68 #[v] w fun e w' => e = .returned (.tuple #[recV false 0 0, .bool false]) ∧ Below w.heap.size w w' := by
  obtain ⟨a, c, rfl⟩ : ∃ a c, v = .slice a xs.length c := by
    rcases hv.2 with ⟨rfl, rfl⟩ | ⟨b, o, c, rfl, _⟩
    · exact ⟨_, _, rfl⟩
    · exact ⟨_, _, rfl⟩
  have hd : decide ((xs.length : Int) < 13) = true := decide_eq_true (by omega)
  clear hv
  go_enter Tryz.func68, Tryz.ntmps68
  go_wp2
  go_returns
  exact ⟨rfl, (Below.refl _ _).alloc (Nat.le_refl _) _⟩

set_option maxRecDepth 100000 in
set_option maxHeartbeats 1000000 in
theorem readRecord_long (v : Value) (xs : List Int) (w : World) (hv : RestV w v xs) (hs : 13 ≤ xs.length) :
    Calls Tryz.prog 68 #[v] w fun e w' => e = .returned (.tuple #[if okR xs then recV (rO xs) (rA xs) (rS xs) else recV false 0 0, .bool (okR xs)]) ∧ Below w.heap.size w w' := by
  obtain ⟨b, o, c, rfl, h1, h2, h3⟩ : ∃ b o c, v = .slice (some ⟨b, o, none⟩) xs.length c ∧ xs.length ≤ c ∧ c ≤ 9223372036854775807 ∧ ∀ (j : Nat) (x : Int), xs[j]? = some x → w.cell? ⟨b, o + j, none⟩ = some (.int .u8 x) := by
    rcases hv.2 with ⟨rfl, rfl⟩ | h
    · simp at hs
    · exact h
  have hp := (RestV.part hv.1 h1 h2 h3 13 hs).1
  have hd : decide ((xs.length : Int) < 13) = false := decide_eq_false (by omega)
  have hx := hv.1
  obtain ⟨x0, x1, x2, x3, x4, x5, x6, x7, x8, x9, x10, x11, x12, ys, hxs⟩ := list13 hs
  have hO : rO xs = (x0 == 1) := by rw [hxs]; rfl
  have hA : rA xs = n4 x1 x2 x3 x4 := by rw [hxs]; rfl
  have hS : rS xs = n4 x5 x6 x7 x8 := by rw [hxs]; rfl
  have ht : xs.take 13 = [x0, x1, x2, x3, x4, x5, x6, x7, x8, x9, x10, x11, x12] := by rw [hxs]; rfl
  have hk : okR xs = decide ([x0, x1, x2, x3, x4, x5, x6, x7, x8, x9, x10, x11, x12] = recB (x0 == 1) (n4 x1 x2 x3 x4) (n4 x5 x6 x7 x8)) := by
    unfold okR
    rw [hO, hA, hS, ht, decide_eq_true hs, Bool.true_and]
  have hbA : 0 ≤ n4 x1 x2 x3 x4 ∧ n4 x1 x2 x3 x4 < 4294967296 := by
    rw [hxs] at hx
    exact n4_b' (hx x1 (by simp)) (hx x2 (by simp)) (hx x3 (by simp)) (hx x4 (by simp))
  have hbS : 0 ≤ n4 x5 x6 x7 x8 ∧ n4 x5 x6 x7 x8 < 4294967296 := by
    rw [hxs] at hx
    exact n4_b' (hx x5 (by simp)) (hx x6 (by simp)) (hx x7 (by simp)) (hx x8 (by simp))
  rw [hO, hA, hS]
  rw [ht] at hp
  have hk' := (show Hid _ from hk)
  generalize okR xs = ok at hk' ⊢
  clear hv h3 hx hxs hO hA hS ht hk
  have hZ : RBk w.heap.size false 0 0 ((w.alloc (recBox false 0 0)).alloc (.cells #[.slice (some ⟨b, o, none⟩) 13 c] 141)) := (RBk.new false 0 0 w).later ((Below.refl _ _).alloc (Nat.le_refl _) _)
  have hB : Below w.heap.size w ((w.alloc (recBox false 0 0)).alloc (.cells #[.slice (some ⟨b, o, none⟩) 13 c] 141)) := ((Below.refl _ _).alloc (Nat.le_refl _) _).alloc (by simp) _
  have hR : Rd (w.heap.size + 1) [x0, x1, x2, x3, x4, x5, x6, x7, x8, x9, x10, x11, x12] ((w.alloc (recBox false 0 0)).alloc (.cells #[.slice (some ⟨b, o, none⟩) 13 c] 141)) := by
    have hh := heap_alloc_new (w.alloc (recBox false 0 0)) (.cells #[.slice (some ⟨b, o, none⟩) 13 c] 141)
    rw [World.size_alloc] at hh
    exact ⟨_, cell_of_row _ _ 0 _ _ _ hh, free_of hh 0, hp.kept hB⟩
  dsimp only [recBox] at hZ hB hR
  go_enter Tryz.func68, Tryz.ntmps68
  go_wp2_with fail
  generalize World.alloc _ _ = W1 at hZ hB hR ⊢
  refine (one_any _ _ _ hR).mono ?_
  rintro e W2 (⟨x, zs, he, hx0, hx1, rfl, hR2, hg2, hb2⟩ | ⟨he, _⟩)
  case inr => cases he
  cases he
  have hZ2 := hZ.below hb2 (Nat.lt_succ_self _)
  have hB2 := hB.trans (hb2.mono (Nat.le_succ _))
  clear hZ hB hR hg2 hb2
  go_wp2_with fail
  refine (number_any _ _ _ hR2).mono ?_
  rintro e W3 (⟨a', b', c', d', zs, he, rfl, hR3, hg3, hb3⟩ | ⟨he, _⟩)
  case inr => simp at he
  cases he
  have hZ3 := hZ2.below hb3 (Nat.lt_succ_self _)
  have hB3 := hB2.trans (hb3.mono (Nat.le_succ _))
  clear hZ2 hB2 hR2 hg3 hb3
  go_wp2_with fail
  refine (number_any _ _ _ hR3).mono ?_
  rintro e W4 (⟨a', b', c', d', zs, he, rfl, hR4, hg4, hb4⟩ | ⟨he, _⟩)
  case inr => simp at he
  cases he
  have hZ4 := hZ3.below hb4 (Nat.lt_succ_self _)
  have hB4 := hB3.trans (hb4.mono (Nat.le_succ _))
  clear hZ3 hB3 hR3 hg4 hb4 hR4
  have hN := RBk.new (x0 == 1) (n4 x1 x2 x3 x4) (n4 x5 x6 x7 x8) W4
  have hbn : Below W4.heap.size W4 (W4.alloc (recBox (x0 == 1) (n4 x1 x2 x3 x4) (n4 x5 x6 x7 x8))) := (Below.refl _ _).alloc (Nat.le_refl _) _
  have hZ5 := hZ4.later hbn
  have hB5 := hB4.trans (hbn.mono hB4.size)
  dsimp only [recBox] at hN hZ5 hB5
  clear hbn hZ4 hB4
  go_wp2_with fail
  clear hN
  have hN := RBk.new (x0 == 1) (n4 x1 x2 x3 x4) (n4 x5 x6 x7 x8) W4
  dsimp only [recBox] at hN
  generalize W4.heap.size = R5 at hN ⊢
  generalize World.alloc _ _ = W5 at hN hZ5 hB5 ⊢
  refine (WriteRecord_any (x0 == 1) (n4 x1 x2 x3 x4) (n4 x5 x6 x7 x8) hbA.1 hbA.2 hbS.1 hbS.2 _).mono ?_
  rintro e W6 ⟨v6, rfl, hb6, hnn6, hown6⟩
  have hN6 := hN.later hb6
  have hZ6 := hZ5.later hb6
  have hB6 := hB5.trans (hb6.mono hB5.size)
  have hp6 := hp.kept hB6
  have hr6 : RestV W6 v6 (recB (x0 == 1) (n4 x1 x2 x3 x4) (n4 x5 x6 x7 x8)) := rest_row (base := W5.heap.size + 1) hown6 (recB_b hbA.1 hbA.2 hbS.1 hbS.2)
  clear hN hZ5 hB5 hb6 hnn6 hown6 hp
  go_wp2_with fail
  refine (Equal_any _ _ _ _ _ hp6 hr6).mono ?_
  rintro e W7 ⟨rfl, rfl⟩
  rw [← hk'.out]
  clear hk' hr6 hp6 hbA hbS
  obtain ⟨n0, n1, n2⟩ := hN6.cell
  obtain ⟨z0, z1, z2⟩ := hZ6.cell
  have zf := hZ6.free
  have hw := hZ6.lt
  cases ok
  · have hF := hZ6.store false 0 0
    have hG := below_store3 hB6 (Nat.le_refl _) false 0 0
    go_wp2
    dsimp only [store3] at hF hG
    generalize World.setCell _ _ _ = W8 at hF hG ⊢
    obtain ⟨q0, q1, q2⟩ := hF.cell
    exact bodyPost_ret (v := .tuple #[recV false 0 0, .bool false]) (by simp [results, Tryz.results68, go_sem, q0, q1, q2]) rfl ⟨rfl, hG⟩
  · have hF := hZ6.store (x0 == 1) (n4 x1 x2 x3 x4) (n4 x5 x6 x7 x8)
    have hG := below_store3 hB6 (Nat.le_refl _) (x0 == 1) (n4 x1 x2 x3 x4) (n4 x5 x6 x7 x8)
    go_wp2
    dsimp only [store3] at hF hG
    generalize World.setCell _ _ _ = W8 at hF hG ⊢
    obtain ⟨q0, q1, q2⟩ := hF.cell
    exact bodyPost_ret (v := .tuple #[recV (x0 == 1) (n4 x1 x2 x3 x4) (n4 x5 x6 x7 x8), .bool true]) (by simp [results, Tryz.results68, go_sem, q0, q1, q2]) rfl ⟨rfl, hG⟩

theorem readRecord_any (v : Value) (xs : List Int) (w : World) (hv : RestV w v xs) :
    Calls Tryz.prog 68 #[v] w fun e w' => e = .returned (.tuple #[if okR xs then recV (rO xs) (rA xs) (rS xs) else recV false 0 0, .bool (okR xs)]) ∧ Below w.heap.size w w' := by
  by_cases hs : 13 ≤ xs.length
  · exact readRecord_long v xs w hv hs
  · have hk : okR xs = false := by simp [okR, hs]
    rw [hk]
    exact readRecord_short v xs w hv (by omega)
end Go.Proofs.YtakaadcpaeiccabGreat

namespace Go.Proofs.YtakaadcpaeiccabGreat
open Go.RowKit

theorem info_rec : (Tryz.prog.info? 82).map (fun i => (i.zero, i.size, i.bytes)) = some (some (.agg #[.bool false, .int .u32 0, .int .u32 0]), 3, 12) := by kernel_rfl

/-- The rest of a slice of bytes. -/
theorem slice_from {w : World} {v : Value} {xs : List Int} (hv : RestV w v xs) (k : Nat) (hk : k ≤ xs.length) (i : Int) (hi : i = k) :
    ∃ u, (∀ W : World, (Instr.slice 58 v (some (.int .i64 i)) none none).run Tryz.prog W = .ok u W) ∧ ∀ W : World, RestV W v xs → RestV W u (xs.drop k) := by
  have ht : Tryz.prog.underlying 58 = some (.slice (Tryz.prog.elem 58)) := by simp [Program.elem, Tryz.underlying58]
  have hz : ∀ w, (Go.sizeOf (Tryz.prog.elem 58)).run Tryz.prog w = .ok 1 w := by
    intro w
    simp [go_sem, Program.elem, Tryz.underlying58]
  subst hi
  rcases hv.2 with ⟨rfl, rfl⟩ | ⟨b, o, c, rfl, h1, h2, _⟩
  · obtain rfl : k = 0 := by simpa using hk
    refine ⟨.slice none 0 0, fun W => ?_, fun W h => h⟩
    rw [run_slice_l W 58 _ _ _ ht .i64 _ (by omega) (by omega), hz]
    rfl
  · refine ⟨sliced (some ⟨b, o, none⟩) k xs.length c 1, fun W => ?_, fun W h => ?_⟩
    · rw [run_slice_l W 58 _ _ _ ht .i64 _ (by omega) (by omega), hz]
      rfl
    · rcases h.2 with ⟨he, _⟩ | ⟨b', o', c', he, _, _, h3⟩
      · cases he
      · simp only [Value.slice.injEq, Option.some.injEq, Addr.mk.injEq, and_true] at he
        obtain ⟨⟨rfl, rfl⟩, _, rfl⟩ := he
        have hp := (RestV.part h.1 h1 h2 h3 k hk).2
        unfold sliced
        split
        · rename_i hc
          have hx : xs.drop k = [] := List.drop_eq_nil_of_le (by omega)
          rw [hx]
          refine ⟨by simp, .inr ⟨b, o, c - k, ?_, by simp, by omega, by simp⟩⟩
          rw [show xs.length - k = ([] : List Int).length by simp; omega]
        · have e : (some (⟨b, o, none⟩ : Addr)).map (·.add (k * 1)) = some ⟨b, o + k, none⟩ := by simp [Addr.add]
          rw [e]
          exact hp

/-- Records as cells. -/
def RC (L : List (Bool × Int × Int)) : List Value := L.flatMap fun x => [.bool x.1, .int .u32 x.2.1, .int .u32 x.2.2]
theorem RC_append (a b : List (Bool × Int × Int)) : RC (a ++ b) = RC a ++ RC b := by simp [RC]
theorem RC_one (x : Bool × Int × Int) : RC [x] = [.bool x.1, .int .u32 x.2.1, .int .u32 x.2.2] := rfl

/-- The records that stand one behind the other. -/
def rdJ : Nat → List Int → List (Bool × Int × Int)
  | 0, _ => []
  | f + 1, xs => if okR xs then (rO xs, rA xs, rS xs) :: rdJ f (xs.drop 13) else []
def jl (xs : List Int) : List (Bool × Int × Int) := rdJ xs.length xs
theorem okR_len {xs : List Int} (h : okR xs = true) : 13 ≤ xs.length := by
  simp only [okR, Bool.and_eq_true, decide_eq_true_eq] at h
  exact h.1
theorem rdJ_no {xs : List Int} (h : okR xs = false) (f : Nat) : rdJ f xs = [] := by
  cases f <;> simp [rdJ, h]
theorem rdJ_yes {xs : List Int} (h : okR xs = true) {f : Nat} (hf : xs.length ≤ f) : rdJ f xs = (rO xs, rA xs, rS xs) :: rdJ (f - 1) (xs.drop 13) := by
  have := okR_len h
  obtain ⟨g, rfl⟩ : ∃ g, f = g + 1 := ⟨f - 1, by omega⟩
  simp [rdJ, h]

theorem cells_rec (W : World) (o : Bool) (a s : Int) : ∀ (j : Nat) (u : Value), (RC [(o, a, s)])[j]? = some u → (W.alloc (recBox o a s)).cell? ((⟨W.heap.size, 0, none⟩ : Addr).add j) = some u := by
  intro j u hj
  have hh := heap_alloc_new W (recBox o a s)
  rw [RC_one] at hj
  match j, hj with
  | 0, hj => exact (cell_of_row _ _ 0 _ _ _ hh).trans hj
  | 1, hj => exact (cell_of_row _ _ 1 _ _ _ hh).trans hj
  | 2, hj => exact (cell_of_row _ _ 2 _ _ _ hh).trans hj
  | j + 3, hj => simp at hj
theorem one_rec (o : Bool) (a s : Int) : ∀ u ∈ RC [(o, a, s)], u.oneCell' = true := by
  intro u hu
  simp only [RC_one, List.mem_cons, List.not_mem_nil, or_false] at hu
  rcases hu with rfl | rfl | rfl <;> rfl

set_option maxRecDepth 100000 in
set_option maxHeartbeats 2000000 in
theorem ReadJournal_any (v : Value) (xs : List Int) (hxs : xs.length ≤ 1000000) (w : World) (hv : RestV w v xs) :
    Calls Tryz.prog 41 #[v] w fun e w' => ∃ u, e = .returned (.tuple #[u, .int .i64 (13 * (jl xs).length : Nat)]) ∧ Below w.heap.size w w' ∧ w'.ownsRow w.heap.size 82 3 u (jl xs).length (RC (jl xs)) := by
  obtain ⟨i0, hi, hz0, hz1, hz2⟩ := info_parts info_rec
  go_enter Tryz.func41, Tryz.ntmps41
  go_wp2_with fail
  go_loopw [4, 5] (fun l t wr => ∃ (k : Nat) (L : List (Bool × Int × Int)), L.length = k ∧ 13 * k ≤ xs.length ∧ t = .int .i64 (13 * (k : Int)) ∧ wr.ownsRow w.heap.size 82 3 l k (RC L) ∧ Below w.heap.size w wr ∧ jl xs = L ++ rdJ (xs.length - k) (xs.drop (13 * k))) (fun _ t _ => xs.length - (intOf t).toNat)
  case atStart => exact ⟨0, [], rfl, by omega, rfl, ⟨rfl, .inl ⟨rfl, rfl⟩⟩, Below.refl _ _, rfl⟩
  case round =>
    obtain ⟨k, L, hLk, h13, rfl, ho, hB, hj⟩ := hrel
    obtain ⟨u, hsl, hu⟩ := slice_from hv (13 * k) h13 (13 * (k : Int)) (by omega)
    have hur := hu _ (hv.kept hB)
    have hj' := (show Hid _ from hj)
    have hLk' := (show Hid _ from hLk)
    clear hj hu hLk
    go_wp2_with fail
    refine (readRecord_any _ _ _ hur).mono ?_
    rintro e W1 ⟨rfl, hb1⟩
    have ho1 := ho.kept (w' := W1) (row := none) ⟨hb1.os, hb1.tape, hb1.output, hb1.size, fun k hk _ => hb1.block k hk⟩ (by cases u4.ownBlock <;> simp)
    have hB1 := hB.trans (hb1.mono hB.size)
    clear ho hB hb1 hsl hur
    have hdl : (xs.drop (13 * k)).length = xs.length - 13 * k := List.length_drop
    cases hok : okR (xs.drop (13 * k))
    · have hj0 : jl xs = L := by rw [hj'.out, rdJ_no hok, List.append_nil]
      have hj1 : Hid ((jl xs).length = k) := by
        show (jl xs).length = k
        rw [hj0]; exact hLk'.out
      have hj2 : Hid (RC (jl xs) = RC L) := by
        show RC (jl xs) = RC L
        rw [hj0]
      clear hj0 hok hdl
      have ho2 := ho1.alloc (recBox false 0 0)
      have hB2 : Below w.heap.size w (W1.alloc (recBox false 0 0)) := hB1.alloc hB1.size _
      dsimp only [recBox] at ho2 hB2
      go_wp2
      go_ret2
      refine ⟨u4, ?_, hB2, ?_⟩
      · rw [hj1.out]
        simp
      · rw [hj1.out, hj2.out]
        exact ho2
    · have hge := okR_len hok
      have hst : Hid (rdJ (xs.length - k) (xs.drop (13 * k)) = (rO (xs.drop (13 * k)), rA (xs.drop (13 * k)), rS (xs.drop (13 * k))) :: rdJ (xs.length - (k + 1)) (xs.drop (13 * (k + 1)))) := by
        show _ = _
        rw [rdJ_yes hok (by omega), List.drop_drop, show 13 * k + 13 = 13 * (k + 1) by omega, show xs.length - k - 1 = xs.length - (k + 1) by omega]
      generalize rO (xs.drop (13 * k)) = o at hst ⊢
      generalize rA (xs.drop (13 * k)) = a at hst ⊢
      generalize rS (xs.drop (13 * k)) = s at hst ⊢
      clear hok
      have ho2 := (ho1.alloc (recBox o a s)).alloc (recBox o a s)
      have hc2 := cells_rec (W1.alloc (recBox o a s)) o a s
      have hB2 : Below w.heap.size w ((W1.alloc (recBox o a s)).alloc (recBox o a s)) := (hB1.alloc hB1.size _).alloc (by have := hB1.size; simp; omega) _
      have hs1 := hB1.size
      have hlt := ho2.lt
      rw [World.size_alloc] at hc2
      dsimp only [recBox] at ho2 hc2 hB2 hlt
      go_wp2_with (at_builtin; refine wpList_append_own _ rfl _ _ 79 rfl w.heap.size 82 i0 (.agg #[.bool false, .int .u32 0, .int .u32 0]) 3 12 Tryz.underlying79 hi hz0 hz1 hz2 rfl (by decide) u4 k (RC L) rfl ho2 ⟨W1.heap.size + 1, 0, none⟩ 1 1 (RC [(o, a, s)]) rfl rfl hc2 (one_rec o a s) ?c1 ?c2 ?c3 ?_)
      case c1 => unfold maxLen; omega
      case c2 => omega
      case c3 => simp; omega
      intro v' W3 ho3 hg3 _
      have hB3 := hB2.grown hg3 hB2.size (fun k hk => (hlt k hk).1)
      clear ho2 hc2 hB2 hg3 hlt
      go_wp2
      go_roundw
      case rel =>
        refine ⟨k + 1, L ++ [(o, a, s)], by rw [List.length_append, hLk'.out]; rfl, by omega, by go_num, ?_, hB3, ?_⟩
        · rw [RC_append]
          exact ho3
        · rw [hj'.out, hst.out, List.append_assoc]
          rfl
      case measure => simp [intOf]; omega
end Go.Proofs.YtakaadcpaeiccabGreat

namespace Go.Proofs.YtakaadcpaeiccabGreat

def recB3 (x : Bool × Int × Int) : List Int := recB x.1 x.2.1 x.2.2
/-- A record as it is written: one's own has the address 0. -/
def norm (x : Bool × Int × Int) : Bool × Int × Int := (x.1, if x.1 then 0 else x.2.1, x.2.2)
def flatR (L : List (Bool × Int × Int)) : List Int := L.flatMap recB3
/-- The numbers of records are in their bounds. -/
def RBd (L : List (Bool × Int × Int)) : Prop := ∀ x ∈ L, (0 ≤ x.2.1 ∧ x.2.1 < 4294967296) ∧ 0 ≤ x.2.2 ∧ x.2.2 < 4294967296
theorem flatR_length (L : List (Bool × Int × Int)) : (flatR L).length = 13 * L.length := by
  induction L with
  | nil => rfl
  | cons a L ih =>
    simp only [flatR, List.flatMap_cons, List.length_append, List.length_cons] at ih ⊢
    rw [ih, show (recB3 a).length = 13 from rfl]
    omega
theorem flatR_append (a b : List (Bool × Int × Int)) : flatR (a ++ b) = flatR a ++ flatR b := by simp [flatR]
theorem flatR_b {L : List (Bool × Int × Int)} (h : RBd L) : ∀ x ∈ flatR L, 0 ≤ x ∧ x ≤ 255 := by
  intro x hx
  simp only [flatR, List.mem_flatMap] at hx
  obtain ⟨y, hy, hx⟩ := hx
  have := h y hy
  exact recB_b this.1.1 this.1.2 this.2.1 this.2.2 x hx

end Go.Proofs.YtakaadcpaeiccabGreat
