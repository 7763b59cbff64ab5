import Derived.Test.YtmahaccaglaldaaW14
import Derived.Recover
import Derived.Defers
import Derived.Lib.EndianBits
import Derived.Test.YtmahaccaglaldaaW13
import Derived.Test.YtmahaccaglaldaaW15
namespace Go.Proofs.Ytmahaccaglaldaa
open Go.RowKit

/-- What a broken frame panics with. -/
@[reducible] def broken : List PanicEntry := [{ v := .iface 28 (.int .i64 1), recovered := false }]

theorem require_ok (w : World) : Calls Try.prog 29 #[.bool true] w fun e w' => e = .returned (.tuple #[]) ∧ w' = w := by
  go_enter Try.func29, Try.ntmps29
  go_wp2
  go_returns
  exact ⟨rfl, rfl⟩

theorem require_no (w : World) : Calls Try.prog 29 #[.bool false] w fun e w' => e = .panicked broken ∧ w' = w := by
  go_enter Try.func29, Try.ntmps29
  go_wp2
  exact ⟨rfl, rfl, rfl⟩

/-- A slice of bytes, and what it holds. -/
def RestV (W : World) (v : Value) (xs : List Int) : Prop :=
  (∀ x ∈ xs, 0 ≤ x ∧ x ≤ 255) ∧ ((v = .slice none 0 0 ∧ xs = []) ∨
    ∃ b o c, v = .slice (some ⟨b, o, none⟩) xs.length c ∧ xs.length ≤ c ∧ c ≤ 9223372036854775807 ∧ ∀ (j : Nat) (x : Int), xs[j]? = some x → W.cell? ⟨b, o + j, none⟩ = some (.int .u8 x))

/-- A reader, and what it has still to read. -/
def Rd (R : Nat) (xs : List Int) (W : World) : Prop := ∃ v, W.cell? ⟨R, 0, none⟩ = some v ∧ W.frozen? ⟨R, 0, none⟩ = false ∧ RestV W v xs

theorem RestV.set {W : World} {v u u' : Value} {xs : List Int} {R : Nat} (h : RestV W v xs) (hR : W.cell? ⟨R, 0, none⟩ = some u) (hu : ∀ k n, u ≠ .int k n) : RestV (W.setCell ⟨R, 0, none⟩ u') v xs := by
  refine ⟨h.1, ?_⟩
  rcases h.2 with h | ⟨b, o, c, rfl, h1, h2, h3⟩
  · exact .inl h
  · refine .inr ⟨b, o, c, rfl, h1, h2, fun j x hx => ?_⟩
    have hc := h3 j x hx
    rw [World.cell?_setCell_other _ _ _ _ (fun e => by rw [← e, hR] at hc; exact hu _ _ (Option.some.inj hc))]
    exact hc

theorem RestV.part {W : World} {b o c : Nat} {xs : List Int} (hb : ∀ x ∈ xs, 0 ≤ x ∧ x ≤ 255) (h1 : xs.length ≤ c) (h2 : c ≤ 9223372036854775807) (h3 : ∀ (j : Nat) (x : Int), xs[j]? = some x → W.cell? ⟨b, o + j, none⟩ = some (.int .u8 x)) (n : Nat) (hn : n ≤ xs.length) :
    RestV W (.slice (some ⟨b, o, none⟩) n c) (xs.take n) ∧ RestV W (.slice (some ⟨b, o + n, none⟩) (xs.length - n) (c - n)) (xs.drop n) := by
  refine ⟨⟨fun x hx => hb x (List.mem_of_mem_take hx), .inr ⟨b, o, c, ?_, ?_, h2, fun j x hx => ?_⟩⟩, ⟨fun x hx => hb x (List.mem_of_mem_drop hx), .inr ⟨b, o + n, c - n, ?_, ?_, by omega, fun j x hx => ?_⟩⟩⟩
  · rw [List.length_take, Nat.min_eq_left hn]
  · rw [List.length_take]; omega
  · rw [List.getElem?_take] at hx
    split at hx
    · exact h3 j x hx
    · cases hx
  · rw [List.length_drop]
  · rw [List.length_drop]; omega
  · rw [List.getElem?_drop] at hx
    have := h3 (n + j) x hx
    rw [Nat.add_assoc]
    exact this

set_option maxHeartbeats 1000000 in
theorem take_some (R : Nat) (b o l c : Nat) (n : Nat) (w : World) (hn : n ≤ l) (hlc : l ≤ c) (hr : w.cell? ⟨R, 0, none⟩ = some (.slice (some ⟨b, o, none⟩) l c)) (hf : w.frozen? ⟨R, 0, none⟩ = false) :
    Calls Try.prog 32 #[.pointer (some ⟨R, 0, none⟩), .int .i64 n] w fun e w' => e = .returned (.slice (some ⟨b, o, none⟩) n c) ∧
      ((c = n ∧ w' = w.setCell ⟨R, 0, none⟩ (.slice (some ⟨b, o, none⟩) (l - n) 0)) ∨ w' = w.setCell ⟨R, 0, none⟩ (.slice (some ⟨b, o + n, none⟩) (l - n) (c - n))) := by
  go_enter Try.func32, Try.ntmps32
  go_wp2_with (go_at_call 29; refine (require_ok _).mono ?_; rintro e w1 ⟨rfl, rfl⟩)
  case inl => go_ret; exact ⟨rfl, .inl rfl⟩
  case inr => go_ret; exact ⟨rfl, rfl⟩

set_option maxHeartbeats 1000000 in
theorem take_short (R : Nat) (a : Option Addr) (l c : Nat) (n : Nat) (w : World) (hn : l < n) (hr : w.cell? ⟨R, 0, none⟩ = some (.slice a l c)) :
    Calls Try.prog 32 #[.pointer (some ⟨R, 0, none⟩), .int .i64 n] w fun e w' => e = .panicked broken ∧ w' = w := by
  have hd : decide (n ≤ l) = false := decide_eq_false (by omega)
  go_enter Try.func32, Try.ntmps32
  go_wp2_with (go_at_call 29; refine (require_no _).mono ?_; rintro e w1 ⟨rfl, rfl⟩)
  exact ⟨rfl, rfl, rfl⟩

set_option maxHeartbeats 1000000 in
theorem take_nil (R : Nat) (w : World) (hr : w.cell? ⟨R, 0, none⟩ = some (.slice none 0 0)) (hf : w.frozen? ⟨R, 0, none⟩ = false) :
    Calls Try.prog 32 #[.pointer (some ⟨R, 0, none⟩), .int .i64 0] w fun e w' => e = .returned (.slice none 0 0) ∧ w' = w.setCell ⟨R, 0, none⟩ (.slice none 0 0) := by
  go_enter Try.func32, Try.ntmps32
  go_wp2_with (go_at_call 29; refine (require_ok _).mono ?_; rintro e w1 ⟨rfl, rfl⟩)
  all_goals (go_ret; exact ⟨rfl, rfl⟩)

/-- What reading may leave. -/
def TakeP (R : Nat) (n : Nat) (xs : List Int) (W : World) (e : Ending) (w' : World) : Prop :=
  (n ≤ xs.length ∧ (∃ v, e = .returned v ∧ RestV w' v (xs.take n)) ∧ Rd R (xs.drop n) w' ∧ W.grownBy w' (some R) ∧ Below R W w') ∨ (xs.length < n ∧ e = .panicked broken ∧ w' = W)

theorem grown_set (W : World) (R : Nat) (u : Value) : W.grownBy (W.setCell ⟨R, 0, none⟩ u) (some R) := ⟨rfl, rfl, rfl, by simp, fun k _ hk => Below.heap_setCell W ⟨R, 0, none⟩ u k (fun e => hk (by simp [e]))⟩
theorem below_set (W : World) (R : Nat) (u : Value) : Below R W (W.setCell ⟨R, 0, none⟩ u) := (Below.refl _ _).setCell (p := ⟨R, 0, none⟩) (Nat.le_refl _) _

/-- Reading n bytes. -/
theorem take_any (R n : Nat) (xs : List Int) (W : World) (h : Rd R xs W) :
    Calls Try.prog 32 #[.pointer (some ⟨R, 0, none⟩), .int .i64 n] W fun e w' => TakeP R n xs W e w' := by
  obtain ⟨v, hr, hf, hb, hv⟩ := h
  by_cases hn : n ≤ xs.length
  · rcases hv with ⟨rfl, rfl⟩ | ⟨b, o, c, rfl, h1, h2, h3⟩
    · obtain rfl : n = 0 := by simpa using hn
      refine (take_nil R W hr hf).mono ?_
      rintro e w' ⟨rfl, rfl⟩
      have hr0 : ∀ W' : World, RestV W' (.slice none 0 0) [] := fun W' => ⟨by simp, .inl ⟨rfl, rfl⟩⟩
      exact .inl ⟨hn, ⟨_, rfl, hr0 _⟩, ⟨_, World.cell?_setCell_same _ _ _ hr, (World.frozen?_setCell _ _ _ _).trans hf, hr0 _⟩, grown_set _ _ _, below_set _ _ _⟩
    · have hpart := RestV.part hb h1 h2 h3 n hn
      refine (take_some R b o xs.length c n W hn h1 hr hf).mono ?_
      rintro e w' ⟨rfl, ⟨hcn, rfl⟩ | rfl⟩
      · refine .inl ⟨hn, ⟨_, rfl, hpart.1.set hr (by simp)⟩, ⟨_, World.cell?_setCell_same _ _ _ hr, (World.frozen?_setCell _ _ _ _).trans hf, ?_⟩, grown_set _ _ _, below_set _ _ _⟩
        have hx : xs.drop n = [] := List.drop_eq_nil_of_le (by omega)
        rw [hx]
        refine ⟨by simp, .inr ⟨b, o, 0, ?_, by simp, by omega, by simp⟩⟩
        rw [show xs.length - n = ([] : List Int).length by simp; omega]
      · exact .inl ⟨hn, ⟨_, rfl, hpart.1.set hr (by simp)⟩, ⟨_, World.cell?_setCell_same _ _ _ hr, (World.frozen?_setCell _ _ _ _).trans hf, hpart.2.set hr (by simp)⟩, grown_set _ _ _, below_set _ _ _⟩
  · have hs : ∃ a c, v = .slice a xs.length c := by
      rcases hv with ⟨rfl, rfl⟩ | ⟨b, o, c, rfl, _⟩
      · exact ⟨_, _, rfl⟩
      · exact ⟨_, _, rfl⟩
    obtain ⟨a, c, rfl⟩ := hs
    refine (take_short R a xs.length c n W (by omega) hr).mono ?_
    rintro e w' ⟨rfl, rfl⟩
    exact .inr ⟨by omega, rfl, rfl⟩

theorem rest_cell {W : World} {v : Value} {xs : List Int} (h : RestV W v xs) {j : Nat} {x : Int} (hx : xs[j]? = some x) :
    0 ≤ x ∧ x ≤ 255 ∧ ∃ b o c, v = .slice (some ⟨b, o, none⟩) xs.length c ∧ W.cell? ⟨b, o + j, none⟩ = some (.int .u8 x) := by
  have hb := h.1 x (List.mem_of_getElem? hx)
  rcases h.2 with ⟨_, rfl⟩ | ⟨b, o, c, rfl, _, _, h3⟩
  · simp at hx
  · exact ⟨hb.1, hb.2, b, o, c, rfl, h3 j x hx⟩

set_option maxHeartbeats 1000000 in
/-- Reading one byte. -/
theorem one_any (R : Nat) (xs : List Int) (W : World) (h : Rd R xs W) :
    Calls Try.prog 28 #[.pointer (some ⟨R, 0, none⟩)] W fun e w' => (∃ x ys, xs = x :: ys ∧ 0 ≤ x ∧ x ≤ 255 ∧ e = .returned (.int .i64 x) ∧ Rd R ys w' ∧ W.grownBy w' (some R) ∧ Below R W w') ∨ (xs = [] ∧ e = .panicked broken ∧ w' = W) := by
  go_enter Try.func28, Try.ntmps28
  go_wp2_with fail
  refine (take_any R 1 xs W h).mono ?_
  rintro e w1 (⟨hn, ⟨v, rfl, hv⟩, hrd, hg, hbl⟩ | ⟨hn, rfl, rfl⟩)
  · obtain ⟨x, ys, rfl⟩ : ∃ x ys, xs = x :: ys := by
      cases xs with
      | nil => simp at hn
      | cons x ys => exact ⟨x, ys, rfl⟩
    obtain ⟨hx0, hx1, b, o, c, hv', hcell⟩ := rest_cell hv (j := 0) (x := x) rfl
    simp only [List.take_succ_cons, List.take_zero, List.length_cons, List.length_nil, Nat.zero_add, Nat.add_zero] at hv' hcell
    subst hv'
    clear hv
    go_wp2
    go_ret
    exact .inl ⟨x, ys, rfl, hx0, hx1, rfl, hrd, hg, hbl⟩
  · obtain rfl : xs = [] := List.eq_nil_of_length_eq_zero (by omega)
    exact ⟨rfl, .inr ⟨rfl, rfl, rfl⟩⟩
end Go.Proofs.Ytmahaccaglaldaa

namespace Go.Proofs.Ytmahaccaglaldaa
open Go.RowKit

def n4 (a b c d : Int) : Int := a * 16777216 + b * 65536 + c * 256 + d

theorem or_low (x y : Int) (hx : 0 ≤ x) (hx1 : x < 16777216) (hy : 0 ≤ y) (hy1 : y ≤ 255) : bits .or .u32 (x * 256) y = x * 256 + y := by
  rw [bits_join .u32 32 (by decide) wraps_u32 8 (x * 256) y (by omega) (by omega) (by omega) hy (by omega) (by omega)]

set_option maxRecDepth 100000 in
set_option maxHeartbeats 1000000 in
/-- Reading a number. -/
theorem number_any (R : Nat) (xs : List Int) (W : World) (h : Rd R xs W) :
    Calls Try.prog 30 #[.pointer (some ⟨R, 0, none⟩)] W fun e w' => (∃ a b c d ys, xs = a :: b :: c :: d :: ys ∧ e = .returned (.int .u32 (n4 a b c d)) ∧ Rd R ys w' ∧ W.grownBy w' (some R) ∧ Below R W w') ∨ (xs.length < 4 ∧ e = .panicked broken ∧ w' = W) := by
  go_enter Try.func30, Try.ntmps30
  go_wp2_with fail
  refine (take_any R 4 xs W h).mono ?_
  rintro e w1 (⟨hn, ⟨v, rfl, hv⟩, hrd, hg, hbl⟩ | ⟨hn, rfl, rfl⟩)
  · obtain ⟨x0, x1, x2, x3, ys, rfl⟩ : ∃ a b c d ys, xs = a :: b :: c :: d :: ys := by
      match xs, hn with
      | a :: b :: c :: d :: ys, _ => exact ⟨a, b, c, d, ys, rfl⟩
    obtain ⟨p0, q0, b, o, c, hv', c0⟩ := rest_cell hv (j := 0) (x := x0) rfl
    simp only [List.take_succ_cons, List.take_zero, List.length_cons, List.length_nil, Nat.zero_add, Nat.add_zero, Nat.reduceAdd] at hv' c0
    subst hv'
    obtain ⟨p1, q1, b1, o1, d1, e1, c1⟩ := rest_cell hv (j := 1) (x := x1) rfl
    obtain ⟨p2, q2, b2, o2, d2, e2, c2⟩ := rest_cell hv (j := 2) (x := x2) rfl
    obtain ⟨p3, q3, b3, o3, d3, e3, c3⟩ := rest_cell hv (j := 3) (x := x3) rfl
    simp only [Value.slice.injEq, Option.some.injEq, Addr.mk.injEq, and_true] at e1 e2 e3
    obtain ⟨⟨rfl, rfl⟩, h41, rfl⟩ := e1
    clear h41
    obtain ⟨⟨rfl, rfl⟩, h42, rfl⟩ := e2
    clear h42
    obtain ⟨⟨rfl, rfl⟩, h43, rfl⟩ := e3
    clear h43
    have hrd' : Rd R ys w1 := hrd
    clear hv hrd hn h
    go_wp2_with fail
    go_loop [3, 9] (fun n i => (i = .int .i64 0 ∧ n = .int .u32 0) ∨ (i = .int .i64 1 ∧ n = .int .u32 x0) ∨ (i = .int .i64 2 ∧ n = .int .u32 (x0 * 256 + x1)) ∨ (i = .int .i64 3 ∧ n = .int .u32 ((x0 * 256 + x1) * 256 + x2)) ∨ (i = .int .i64 4 ∧ n = .int .u32 (((x0 * 256 + x1) * 256 + x2) * 256 + x3))) (fun _ i => 4 - (intOf i).toNat)
    case atStart => exact .inl ⟨rfl, rfl⟩
    case round =>
      have k0 : Hid (bits .or .u32 0 x0 = x0) := by
        have := or_low 0 x0 (by omega) (by omega) p0 q0
        show bits .or .u32 0 x0 = x0
        simpa using this
      have k1 : Hid _ := or_low x0 x1 p0 (by omega) p1 q1
      have k2 : Hid _ := or_low (x0 * 256 + x1) x2 (by omega) (by omega) p2 q2
      have k3 : Hid _ := or_low ((x0 * 256 + x1) * 256 + x2) x3 (by omega) (by omega) p3 q3
      rcases hrel with ⟨rfl, rfl⟩ | ⟨rfl, rfl⟩ | ⟨rfl, rfl⟩ | ⟨rfl, rfl⟩ | ⟨rfl, rfl⟩
      · clear c1 c2 c3
        go_wp2
        go_round
        case rel => exact .inr (.inl ⟨rfl, by rw [k0.out]⟩)
        case measure => simp [intOf]
      · clear c0 c2 c3
        go_wp2
        go_round
        case rel => exact .inr (.inr (.inl ⟨rfl, by rw [k1.out]⟩))
        case measure => simp [intOf]
      · clear c0 c1 c3
        go_wp2
        go_round
        case rel => exact .inr (.inr (.inr (.inl ⟨rfl, by rw [k2.out]⟩)))
        case measure => simp [intOf]
      · clear c0 c1 c2
        go_wp2
        go_round
        case rel => exact .inr (.inr (.inr (.inr ⟨rfl, by rw [k3.out]⟩)))
        case measure => simp [intOf]
      · go_wp2
        go_ret
        refine .inl ⟨x0, x1, x2, x3, ys, ⟨rfl, rfl, rfl, rfl, rfl⟩, ret_int ?_, hrd', hg, hbl⟩
        unfold n4
        omega
  · exact ⟨rfl, .inr ⟨by omega, rfl, rfl⟩⟩
end Go.Proofs.Ytmahaccaglaldaa

namespace Go.Proofs.Ytmahaccaglaldaa
open Go.RowKit

theorem Rd.alloc {R : Nat} {xs : List Int} {W : World} (h : Rd R xs W) (o : Obj) : Rd R xs (W.alloc o) := by
  obtain ⟨v, h1, h2, hb, h3⟩ := h
  have hlt := World.block_lt_of_cell? W _ h1
  refine ⟨v, (World.cell?_alloc_lt _ _ _ hlt).trans h1, (World.frozen?_alloc_old W o _ (by simp at hlt ⊢; omega)).trans h2, hb, ?_⟩
  rcases h3 with h | ⟨b, o', c, rfl, k1, k2, k3⟩
  · exact .inl h
  · exact .inr ⟨b, o', c, rfl, k1, k2, fun j x hx => (World.cell?_alloc_lt _ _ _ (World.block_lt_of_cell? W _ (k3 j x hx))).trans (k3 j x hx)⟩

theorem Rd.setCell {R : Nat} {xs : List Int} {W : World} (h : Rd R xs W) {B : Nat} (hB : B ≠ R) {i : Nat} (u u' : Value) (hu : ∀ n, u ≠ .int .u8 n) (hc : W.cell? ⟨B, i, none⟩ = some u) : Rd R xs (W.setCell ⟨B, i, none⟩ u') := by
  obtain ⟨v, h1, h2, hb, h3⟩ := h
  refine ⟨v, (World.cell?_setCell_other _ _ _ _ (fun e => hB (by cases e; rfl))).trans h1, (World.frozen?_setCell _ _ _ _).trans h2, hb, ?_⟩
  rcases h3 with h | ⟨b, o', c, rfl, k1, k2, k3⟩
  · exact .inl h
  · refine .inr ⟨b, o', c, rfl, k1, k2, fun j x hx => ?_⟩
    have hk := k3 j x hx
    rw [World.cell?_setCell_other _ _ _ _ (fun e => by rw [← e, hc] at hk; exact hu _ (Option.some.inj hk))]
    exact hk

theorem Rd.drew {R : Nat} {xs : List Int} {W : World} (h : Rd R xs W) : Rd R xs W.drew := h
theorem PB.drew {p : Pkt} {B : Nat} {W : World} (h : W.heap[B]? = some p.box) : W.drew.heap[B]? = some p.box := h

theorem Rd.lt {R : Nat} {xs : List Int} {W : World} (h : Rd R xs W) : R < W.heap.size := by
  obtain ⟨v, h1, _⟩ := h
  exact World.block_lt_of_cell? W _ h1

/-- A packet in a block of its own. -/
def PB (p : Pkt) (B : Nat) (W : World) : Prop := W.heap[B]? = some p.box
theorem PB.new (p : Pkt) (W : World) : PB p W.heap.size (W.alloc p.box) := heap_alloc_new W _
theorem PB.lt {p : Pkt} {B : Nat} {W : World} (h : PB p B W) : B < W.heap.size := (Array.getElem?_eq_some_iff.1 h).1
theorem PB.grown {p : Pkt} {B R : Nat} {W W' : World} (h : PB p B W) (hg : W.grownBy W' (some R)) (hne : B ≠ R) : PB p B W' := (hg.block B h.lt (by simpa using hne)).trans h
theorem PB.alloc {p : Pkt} {B : Nat} {W : World} (h : PB p B W) (o : Obj) : PB p B (W.alloc o) := (Below.heap_alloc W o B h.lt).trans h
theorem PB.cell {p : Pkt} {B : Nat} {W : World} (h : PB p B W) : InC p B W := by
  have k := fun i => cell_of_row W B i _ _ _ h
  exact ⟨k 0, k 1, k 2, k 3, k 4, k 5, k 6, k 7, k 8, k 9, k 10, k 11⟩
theorem PB.free {p : Pkt} {B : Nat} {W : World} (h : PB p B W) (i : Nat) : W.frozen? ⟨B, i, none⟩ = false := frozen_of_row W B i _ _ h
theorem PB.other {p : Pkt} {B : Nat} {W : World} (h : PB p B W) {a : Addr} (ha : B ≠ a.block) (v : Value) : PB p B (W.setCell a v) := (Below.heap_setCell W a v B ha).trans h

/-- No packet yet. -/
def Pkt.zero : Pkt := ⟨0, 0, 0, false, 0, 0, 0, 0, 0, 0, none, 0, 0, ⟨#[]⟩⟩

theorem PB.set {p : Pkt} {B : Nat} {W : World} (h : PB p B W) (q : Pkt) (i : Nat) (v : Value) (hq : Obj.cells ((#[.int .i64 p.ttl, .int .i64 p.kind, .int .i64 p.hops, .bool p.unk, .int .u32 p.id, .int .u32 p.dest, .int .u32 p.dseq, .int .u32 p.frm, .int .u32 p.fseq, .int .u32 p.life, .slice p.la p.ln p.lc, .string p.pay] : Array Value).setIfInBounds i v) 26 (0, 0) = q.box) :
    PB q B (W.setCell ⟨B, i, none⟩ v) := by
  unfold PB
  rw [heap_setCell_same W B i _ _ v h]
  rw [hq]

theorem one_cons (R : Nat) (x : Int) (ys : List Int) (W : World) (h : Rd R (x :: ys) W) :
    Calls Try.prog 28 #[.pointer (some ⟨R, 0, none⟩)] W fun e w' => e = .returned (.int .i64 x) ∧ Rd R ys w' ∧ W.grownBy w' (some R) := by
  refine (one_any R _ W h).mono ?_
  rintro e w' (⟨x', ys', hx, _, _, rfl, h1, h2, _⟩ | ⟨hx, _⟩)
  · obtain ⟨rfl, rfl⟩ := List.cons.inj hx
    exact ⟨rfl, h1, h2⟩
  · cases hx
theorem one_nil (R : Nat) (W : World) (h : Rd R [] W) :
    Calls Try.prog 28 #[.pointer (some ⟨R, 0, none⟩)] W fun e w' => e = .panicked broken ∧ w' = W := by
  refine (one_any R _ W h).mono ?_
  rintro e w' (⟨x', ys', hx, _⟩ | ⟨_, rfl, rfl⟩)
  · cases hx
  · exact ⟨rfl, rfl⟩

/-- The i-th number of bytes. -/
def num (r : List Int) (i : Nat) : Int := n4 (r.getD (4 * i) 0) (r.getD (4 * i + 1) 0) (r.getD (4 * i + 2) 0) (r.getD (4 * i + 3) 0)

/-- The packet that bytes spell: the first, the second, the third, the fifth, and what follows. -/
def pkOf (x0 x1 x2 x4 : Int) (r : List Int) : Pkt :=
  if x1 = 1 then ⟨x0, 1, x4, x2 == 8, num r 0, num r 1, num r 2, num r 3, num r 4, 0, none, 0, 0, ⟨#[]⟩⟩
  else if x1 = 2 then ⟨x0, 2, x4, x2 == 8, 0, num r 0, num r 1, num r 2, 0, num r 3, none, 0, 0, ⟨#[]⟩⟩
  else if x1 = 3 then ⟨x0, 3, 0, x2 == 8, 0, 0, 0, 0, 0, 0, none, x4.toNat, 0, ⟨#[]⟩⟩
  else if x1 = 9 then ⟨x0, 9, 0, x2 == 8, num r 0, num r 1, 0, num r 2, 0, 0, none, 0, 0, strOfNums ((r.drop 12).take x4.toNat)⟩
  else ⟨x0, x1, 0, x2 == 8, 0, 0, 0, 0, 0, 0, none, 0, 0, ⟨#[]⟩⟩

/-- The list that bytes spell. -/
def plOf (n : Nat) (r : List Int) : List (Int × Int) := (List.range n).map fun i => (num r (2 * i), num r (2 * i + 1))
def lsOf (x1 x4 : Int) (r : List Int) : List (Int × Int) := if x1 = 3 then plOf x4.toNat r else []

/-- How many bytes follow the first five. -/
def needOf (x1 x4 : Int) : Nat := if x1 = 1 then 20 else if x1 = 2 then 16 else if x1 = 3 then 8 * x4.toNat else if x1 = 9 then 12 + x4.toNat else 0

/-- Are these bytes a frame? -/
def isF (xs : List Int) : Bool :=
  match xs with
  | x0 :: x1 :: x2 :: x3 :: x4 :: r => decide (x2 = 0 ∨ x2 = 8) && decide (x3 = 0) && decide (r.length = needOf x1 x4) && (pkOf x0 x1 x2 x4 r).goodB
  | _ => false

theorem grown_trans' {A B C : World} {r : Option Nat} (h : A.grownBy B r) (k : B.grownBy C r) : A.grownBy C r :=
  ⟨k.os.trans h.os, k.tape.trans h.tape, k.output.trans h.output, Nat.le_trans h.size k.size, fun i hi hne => (k.block i (Nat.lt_of_lt_of_le hi h.size) hne).trans (h.block i hi hne)⟩
theorem isF_len {x0 x1 x2 x3 x4 : Int} {r : List Int} (h : r.length ≠ needOf x1 x4) : isF (x0 :: x1 :: x2 :: x3 :: x4 :: r) = false := by
  simp [isF, h]
theorem isF_eq {x0 x1 x2 x4 : Int} {r : List Int} (hf : x2 = 0 ∨ x2 = 8) (h : r.length = needOf x1 x4) : isF (x0 :: x1 :: x2 :: 0 :: x4 :: r) = (pkOf x0 x1 x2 x4 r).goodB := by
  simp [isF, h, hf]
theorem Rd.bytes {R : Nat} {xs : List Int} {W : World} (h : Rd R xs W) : ∀ x ∈ xs, 0 ≤ x ∧ x ≤ 255 := by
  obtain ⟨_, _, _, hb, _⟩ := h
  exact hb
theorem n4_b {a b c d : Int} (ha : 0 ≤ a ∧ a ≤ 255) (hb : 0 ≤ b ∧ b ≤ 255) (hc : 0 ≤ c ∧ c ≤ 255) (hd : 0 ≤ d ∧ d ≤ 255) : 0 ≤ n4 a b c d ∧ n4 a b c d < 4294967296 := by
  unfold n4
  omega
theorem PB.below {p : Pkt} {B : Nat} {W W' : World} (h : PB p B W) (hb : Below W.heap.size W W') : PB p B W' := (hb.block B h.lt).trans h
theorem grown_below {A B C : World} {r : Option Nat} (h : A.grownBy B r) (k : Below B.heap.size B C) : A.grownBy C r :=
  grown_trans' h ⟨k.os, k.tape, k.output, k.size, fun i hi _ => k.block i hi⟩

/-- What is read: the packet, its list elsewhere. -/
def Reads (xs : List Int) (v : Value) (W : World) (N : Nat) : Prop :=
  ∃ x0 x1 x2 x3 x4 r ao c, xs = x0 :: x1 :: x2 :: x3 :: x4 :: r ∧ v = ({ pkOf x0 x1 x2 x4 r with la := ao, lc := c } : Pkt).val ∧
    (lsOf x1 x4 r).length = (pkOf x0 x1 x2 x4 r).ln ∧ HoldsA W ao (lsOf x1 x4 r) ∧ ∀ b, ao = some b → N ≤ b.block

def PacketP (R : Nat) (xs : List Int) (W : World) (e : Ending) (w' : World) : Prop :=
  W.grownBy w' (some R) ∧ ((isF xs = true ∧ ∃ v, e = .returned v ∧ Reads xs v w' W.heap.size) ∨ (isF xs = false ∧ e = .panicked broken))
theorem grown_trans {A B C : World} {r : Option Nat} (h : A.grownBy B r) (k : B.grownBy C r) : A.grownBy C r := grown_trans' h k
theorem grown_drew {A B : World} {r : Option Nat} (h : A.grownBy B r) : A.grownBy B.drew r := ⟨h.os, h.tape, h.output, h.size, h.block⟩
/-- A store into what is new. -/
theorem grown_new {A B : World} {r : Option Nat} (h : A.grownBy B r) {a : Addr} (ha : A.heap.size ≤ a.block) (v : Value) : A.grownBy (B.setCell a v) r :=
  ⟨h.os, h.tape, h.output, by simpa using h.size, fun i hi hne => (Below.heap_setCell B a v i (by omega)).trans (h.block i hi hne)⟩
/-- A packet stored whole. -/
@[reducible] def store12 (w : World) (C : Nat) (p : Pkt) : World :=
  ((((((((((((w.setCell ⟨C, 0, none⟩ (.int .i64 p.ttl)).setCell ⟨C, 1, none⟩ (.int .i64 p.kind)).setCell ⟨C, 2, none⟩ (.int .i64 p.hops)).setCell ⟨C, 3, none⟩ (.bool p.unk)).setCell ⟨C, 4, none⟩ (.int .u32 p.id)).setCell ⟨C, 5, none⟩ (.int .u32 p.dest)).setCell ⟨C, 6, none⟩ (.int .u32 p.dseq)).setCell ⟨C, 7, none⟩ (.int .u32 p.frm)).setCell ⟨C, 8, none⟩ (.int .u32 p.fseq)).setCell ⟨C, 9, none⟩ (.int .u32 p.life)).setCell ⟨C, 10, none⟩ (.slice p.la p.ln p.lc)).setCell ⟨C, 11, none⟩ (.string p.pay))
theorem PB.storeAll {z : Pkt} {C : Nat} {w : World} (h : PB z C w) (p : Pkt) : PB p C (store12 w C p) := by
  have h0 := PB.set h ⟨p.ttl, z.kind, z.hops, z.unk, z.id, z.dest, z.dseq, z.frm, z.fseq, z.life, z.la, z.ln, z.lc, z.pay⟩ 0 (.int .i64 p.ttl) rfl
  have h1 := PB.set h0 ⟨p.ttl, p.kind, z.hops, z.unk, z.id, z.dest, z.dseq, z.frm, z.fseq, z.life, z.la, z.ln, z.lc, z.pay⟩ 1 (.int .i64 p.kind) rfl
  have h2 := PB.set h1 ⟨p.ttl, p.kind, p.hops, z.unk, z.id, z.dest, z.dseq, z.frm, z.fseq, z.life, z.la, z.ln, z.lc, z.pay⟩ 2 (.int .i64 p.hops) rfl
  have h3 := PB.set h2 ⟨p.ttl, p.kind, p.hops, p.unk, z.id, z.dest, z.dseq, z.frm, z.fseq, z.life, z.la, z.ln, z.lc, z.pay⟩ 3 (.bool p.unk) rfl
  have h4 := PB.set h3 ⟨p.ttl, p.kind, p.hops, p.unk, p.id, z.dest, z.dseq, z.frm, z.fseq, z.life, z.la, z.ln, z.lc, z.pay⟩ 4 (.int .u32 p.id) rfl
  have h5 := PB.set h4 ⟨p.ttl, p.kind, p.hops, p.unk, p.id, p.dest, z.dseq, z.frm, z.fseq, z.life, z.la, z.ln, z.lc, z.pay⟩ 5 (.int .u32 p.dest) rfl
  have h6 := PB.set h5 ⟨p.ttl, p.kind, p.hops, p.unk, p.id, p.dest, p.dseq, z.frm, z.fseq, z.life, z.la, z.ln, z.lc, z.pay⟩ 6 (.int .u32 p.dseq) rfl
  have h7 := PB.set h6 ⟨p.ttl, p.kind, p.hops, p.unk, p.id, p.dest, p.dseq, p.frm, z.fseq, z.life, z.la, z.ln, z.lc, z.pay⟩ 7 (.int .u32 p.frm) rfl
  have h8 := PB.set h7 ⟨p.ttl, p.kind, p.hops, p.unk, p.id, p.dest, p.dseq, p.frm, p.fseq, z.life, z.la, z.ln, z.lc, z.pay⟩ 8 (.int .u32 p.fseq) rfl
  have h9 := PB.set h8 ⟨p.ttl, p.kind, p.hops, p.unk, p.id, p.dest, p.dseq, p.frm, p.fseq, p.life, z.la, z.ln, z.lc, z.pay⟩ 9 (.int .u32 p.life) rfl
  have h10 := PB.set h9 ⟨p.ttl, p.kind, p.hops, p.unk, p.id, p.dest, p.dseq, p.frm, p.fseq, p.life, p.la, p.ln, p.lc, z.pay⟩ 10 (.slice p.la p.ln p.lc) rfl
  have h11 := PB.set h10 ⟨p.ttl, p.kind, p.hops, p.unk, p.id, p.dest, p.dseq, p.frm, p.fseq, p.life, p.la, p.ln, p.lc, p.pay⟩ 11 (.string p.pay) rfl
  exact h11
theorem grown_store {A B : World} {r : Option Nat} (h : A.grownBy B r) {C : Nat} (hC : A.heap.size ≤ C) (p : Pkt) : A.grownBy (store12 B C p) r :=
  grown_new (grown_new (grown_new (grown_new (grown_new (grown_new (grown_new (grown_new (grown_new (grown_new (grown_new (grown_new h hC _) hC _) hC _) hC _) hC _) hC _) hC _) hC _) hC _) hC _) hC _) hC _

end Go.Proofs.Ytmahaccaglaldaa

namespace Go.Proofs.Ytmahaccaglaldaa
open Go.RowKit

theorem num_drop (xs : List Int) (k : Nat) {a b c d : Int} {ys : List Int} (h : xs.drop (4 * k) = a :: b :: c :: d :: ys) : num xs k = n4 a b c d := by
  have g : ∀ i x, (a :: b :: c :: d :: ys)[i]? = some x → xs.getD (4 * k + i) 0 = x := by
    intro i x hx
    rw [← h, List.getElem?_drop] at hx
    simp [List.getD, hx]
  unfold num
  rw [show 4 * k = 4 * k + 0 from rfl, g 0 a rfl, g 1 b rfl, g 2 c rfl, g 3 d rfl]

theorem plOf_succ (k : Nat) (xs : List Int) : plOf (k + 1) xs = plOf k xs ++ [(num xs (2 * k), num xs (2 * k + 1))] := by
  simp [plOf, List.range_succ]
theorem LC_append (a b : List (Int × Int)) : LC (a ++ b) = LC a ++ LC b := by simp [LC]
theorem plOf_length (k : Nat) (xs : List Int) : (plOf k xs).length = k := by simp [plOf]

theorem set_two (A : List Value) (u v x y : Value) (T : List Value) : ((A ++ u :: v :: T).set A.length x).set (A.length + 1) y = A ++ [x, y] ++ T := by
  simp [List.set_append_right]

theorem Rd.kept {R : Nat} {xs : List Int} {W W' : World} (h : Rd R xs W) (hb : Below W.heap.size W W') : Rd R xs W' := by
  obtain ⟨v, h1, h2, hx, h3⟩ := h
  have hlt := World.block_lt_of_cell? W _ h1
  refine ⟨v, (hb.cell hlt).trans h1, (hb.frozen hlt).trans h2, hx, ?_⟩
  rcases h3 with h | ⟨b, o', c, rfl, k1, k2, k3⟩
  · exact .inl h
  · exact .inr ⟨b, o', c, rfl, k1, k2, fun j x hx => (hb.cell (World.block_lt_of_cell? W _ (k3 j x hx))).trans (k3 j x hx)⟩

theorem made_u32 (m : Nat) : ∀ v ∈ (madeCells #[Value.int .u32 0, Value.int .u32 0] m).toList, ∃ z, v = .int .u32 z := by
  intro v hv
  simp only [madeCells, Array.toList_map, List.mem_map] at hv
  obtain ⟨i, _, rfl⟩ := hv
  rcases Nat.mod_two_eq_zero_or_one i with h | h <;> simp [h]

def LostP (R n : Nat) (xs : List Int) (W : World) (e : Ending) (w' : World) : Prop :=
  W.grownBy w' (some R) ∧ ((8 * n ≤ xs.length ∧ (∃ g, W.heap.size ≤ g ∧ e = .returned (.slice (some ⟨g, 0, none⟩) n n) ∧ HoldsA w' (some ⟨g, 0, none⟩) (plOf n xs)) ∧ Rd R (xs.drop (8 * n)) w') ∨ (xs.length < 8 * n ∧ e = .panicked broken))

theorem HoldsA.ofOwn {W : World} {base g n cap : Nat} {L : List (Int × Int)} (h : W.ownsRow base 49 2 (.slice (some ⟨g, 0, none⟩) n cap) n (LC L)) (hb : ∀ x ∈ L, 0 ≤ x.1 ∧ x.1 < 4294967296 ∧ 0 ≤ x.2 ∧ x.2 < 4294967296) : HoldsA W (some ⟨g, 0, none⟩) L := by
  have hl := h.1
  rw [LC_length] at hl
  have hlt : g < W.heap.size := by
    rcases h.2 with ⟨hh, _⟩ | ⟨g', _, _, hh, _, hg, _⟩
    · simp at hh
    · simp only [Value.slice.injEq, Option.some.injEq, Addr.mk.injEq, and_true] at hh
      obtain ⟨rfl, _⟩ := hh
      exact (Array.getElem?_eq_some_iff.1 hg).1
  intro j hj
  have hx := hb _ (List.getElem_mem hj)
  have hg := LC_get L j
  rw [List.getElem?_eq_getElem hj] at hg
  refine ⟨g, 0, L[j].1, L[j].2, rfl, hlt, List.getElem?_eq_getElem hj, hx.1, hx.2.1, hx.2.2.1, hx.2.2.2, ?_, ?_⟩
  · rw [Nat.zero_add, h.cellAt (j * 2) (by omega), hg.1]; rfl
  · rw [Nat.zero_add, h.cellAt (j * 2 + 1) (by omega), hg.2]; rfl

theorem num_b {xs : List Int} (h : ∀ x ∈ xs, 0 ≤ x ∧ x ≤ 255) (i : Nat) : 0 ≤ num xs i ∧ num xs i < 4294967296 := by
  have g : ∀ j, 0 ≤ xs.getD j 0 ∧ xs.getD j 0 ≤ 255 := by
    intro j
    rcases Nat.lt_or_ge j xs.length with hj | hj
    · have := h _ (List.getElem_mem hj)
      simpa [List.getD, List.getElem?_eq_getElem hj] using this
    · simp [List.getD, List.getElem?_eq_none hj]
  exact n4_b (g _) (g _) (g _) (g _)
theorem plOf_b {xs : List Int} (h : ∀ x ∈ xs, 0 ≤ x ∧ x ≤ 255) (n : Nat) : ∀ x ∈ plOf n xs, 0 ≤ x.1 ∧ x.1 < 4294967296 ∧ 0 ≤ x.2 ∧ x.2 < 4294967296 := by
  intro x hx
  simp only [plOf, List.mem_map] at hx
  obtain ⟨i, _, rfl⟩ := hx
  have a := num_b h (2 * i)
  have b := num_b h (2 * i + 1)
  exact ⟨a.1, a.2, b.1, b.2⟩

set_option maxRecDepth 100000 in
set_option maxHeartbeats 4000000 in
theorem lost_any (R n : Nat) (hn : n ≤ 255) (xs : List Int) (W : World) (h : Rd R xs W) :
    Calls Try.prog 31 #[.pointer (some ⟨R, 0, none⟩), .int .i64 n] W fun e w' => LostP R n xs W e w' := by
  obtain ⟨i0, hi, hz0, hz1, hz2⟩ := info_parts info_lost
  have hR := h.lt
  have hby := h.bytes
  go_enter Try.func31, Try.ntmps31
  go_wp2_with (at_make; refine wpList_make_full _ rfl _ _ 24 rfl W.heap.size 49 i0 (.agg #[.int .u32 0, .int .u32 0]) 2 Try.underlying24 hi hz0 hz1 .i64 .i64 n n n rfl rfl rfl rfl ?c1 ?c2 ?c3 ?_)
  case c1 => rw [hz2]; omega
  case c2 => unfold maxLen; omega
  case c3 => exact Nat.le_refl _
  intro w1 hown hg1
  have hb1 : Below W.heap.size W w1 := ⟨hg1.os, hg1.tape, hg1.output, hg1.size, fun k hk => hg1.block k hk (by simp)⟩
  have hr1 := h.kept hb1
  have hG1 : W.grownBy w1 (some R) := ⟨hg1.os, hg1.tape, hg1.output, hg1.size, fun k hk _ => hg1.block k hk (by simp)⟩
  have hT : ∀ v ∈ (madeCells #[Value.int .u32 0, Value.int .u32 0] (n * 2)).toList, ∃ z, v = .int .u32 z := made_u32 _
  generalize (madeCells #[Value.int .u32 0, Value.int .u32 0] (n * 2)).toList = T0 at hown hT
  generalize hG : W.heap.size = G at hown ⊢
  clear hg1 hb1 h hi hz0 hz1 hz2
  go_wp2_with fail
  go_loopw [11] (fun i wr => ∃ (k : Nat) (T : List Value), k ≤ n ∧ i = .int .i64 k ∧ 8 * k ≤ xs.length ∧ Rd R (xs.drop (8 * k)) wr ∧ wr.ownsRow G 49 2 (.slice (some ⟨G, 0, none⟩) n n) n (LC (plOf k xs) ++ T) ∧ W.grownBy wr (some R) ∧ (∀ v ∈ T, ∃ z, v = .int .u32 z)) (fun i _ => n - (intOf i).toNat)
  case atStart => exact ⟨0, T0, Nat.zero_le _, rfl, Nat.zero_le _, hr1, hown, hG1, hT⟩
  case round =>
    clear hr1 hown hG1 hT
    obtain ⟨k, T, hk, rfl, h8, hr, ho, hg, hT⟩ := hrel
    by_cases hlt : k < n
    · go_wp2_with fail
      refine (number_any R _ _ hr).mono ?_
      rintro e w2 (⟨a, b, c, d, ys, hd1, rfl, hr2, hg2, _⟩ | ⟨hs, rfl, rfl⟩)
      case inr =>
        rw [List.length_drop] at hs
        exact ⟨rfl, hg, .inr ⟨by omega, rfl⟩⟩
      have ho2 := ho.kept hg2 (by right; simp [Value.ownBlock]; omega)
      have hG2 := grown_trans hg hg2
      clear hr hg2 ho hg
      go_wp2_with fail
      refine (number_any R _ _ hr2).mono ?_
      rintro e w3 (⟨a', b', c', d', zs, rfl, rfl, hr3, hg3, _⟩ | ⟨hs, rfl, rfl⟩)
      case inr =>
        have := congrArg List.length hd1
        simp only [List.length_drop, List.length_cons] at this
        exact ⟨rfl, hG2, .inr ⟨by omega, rfl⟩⟩
      have ho3 := ho2.kept hg3 (by right; simp [Value.ownBlock]; omega)
      have hG3 := grown_trans hG2 hg3
      clear hr2 hg3 ho2 hG2
      have hl3 := ho3.1
      rw [List.length_append, LC_length, plOf_length] at hl3
      obtain ⟨u, v, T', rfl⟩ : ∃ u v T', T = u :: v :: T' := by
        match T, hl3 with
        | [], h => simp at h; omega
        | [_], h => simp at h; omega
        | u :: v :: T', _ => exact ⟨u, v, T', rfl⟩
      obtain ⟨z0, rfl⟩ := hT u (by simp)
      obtain ⟨z1, rfl⟩ := hT v (by simp)
      have hT' : ∀ v ∈ T', ∃ z, v = .int .u32 z := fun v hv => hT v (by simp [hv])
      have c0 : w3.cell? ⟨G, k * 2, none⟩ = some (.int .u32 z0) := by
        rw [ho3.cellAt (k * 2) (by omega), List.getElem?_append_right (by rw [LC_length, plOf_length]; omega), LC_length, plOf_length]
        simp
      have c1 : w3.cell? ⟨G, k * 2 + 1, none⟩ = some (.int .u32 z1) := by
        rw [ho3.cellAt (k * 2 + 1) (by omega), List.getElem?_append_right (by rw [LC_length, plOf_length]; omega), LC_length, plOf_length]
        simp
      have f0 := ho3.frozenAt (k * 2)
      have f1 := ho3.frozenAt (k * 2 + 1)
      have hkn : (k : Int) < (n : Int) := by omega
      clear hT
      have n0 : num xs (2 * k) = n4 a b c d := num_drop xs (2 * k) (by rw [show 4 * (2 * k) = 8 * k by omega]; exact hd1)
      have n1 : num xs (2 * k + 1) = n4 a' b' c' d' := num_drop xs (2 * k + 1) (ys := zs) (by
        rw [show 4 * (2 * k + 1) = 8 * k + 4 by omega, ← List.drop_drop, hd1]; rfl)
      have hdr : xs.drop (8 * (k + 1)) = zs := by
        rw [show 8 * (k + 1) = 8 * k + 8 by omega, ← List.drop_drop, hd1]; rfl
      have hle : 8 * (k + 1) ≤ xs.length := by
        have := congrArg List.length hd1
        simp only [List.length_drop, List.length_cons] at this
        omega
      have hlc : LC (plOf (k + 1) xs) = LC (plOf k xs) ++ [.int .u32 (n4 a b c d), .int .u32 (n4 a' b' c' d')] := by
        rw [plOf_succ, LC_append, n0, n1]; rfl
      have hst := (ho3.stored (k * 2) (.int .u32 (n4 a b c d))).1.stored (k * 2 + 1) (.int .u32 (n4 a' b' c' d'))
      have hset := set_two (LC (plOf k xs)) (.int .u32 z0) (.int .u32 z1) (.int .u32 (n4 a b c d)) (.int .u32 (n4 a' b' c' d')) T'
      rw [LC_length, plOf_length] at hset
      rw [hset] at hst
      have hst' := hst.1
      rw [← hlc] at hst'
      have hrA := hr3.setCell (B := G) (by omega) (i := k * 2) (.int .u32 z0) (.int .u32 (n4 a b c d)) (by simp) c0
      have c1' : (w3.setCell ⟨G, k * 2, none⟩ (.int .u32 (n4 a b c d))).cell? ⟨G, k * 2 + 1, none⟩ = some (.int .u32 z1) := by
        rw [World.cell?_setCell_other _ _ _ _ (by simp)]; exact c1
      have hrB := hrA.setCell (B := G) (by omega) (i := k * 2 + 1) (.int .u32 z1) (.int .u32 (n4 a' b' c' d')) (by simp) c1'
      have hgB := grown_new (grown_new hG3 (a := ⟨G, k * 2, none⟩) (by simp; omega) (.int .u32 (n4 a b c d))) (a := ⟨G, k * 2 + 1, none⟩) (by simp; omega) (.int .u32 (n4 a' b' c' d'))
      rw [← hdr] at hrB
      clear n0 n1 hdr hlc hst hset hd1 hl3 c1' hrA hr3 hG3 ho3
      go_wp2
      go_roundw
      case rel => exact ⟨k + 1, T', by omega, by go_num, hle, hrB, hst', hgB, hT'⟩
      case measure => simp [intOf]; omega
    · obtain rfl : k = n := by omega
      clear hk hlt
      have hl3 := ho.1
      rw [List.length_append, LC_length, plOf_length] at hl3
      obtain rfl : T = [] := List.eq_nil_of_length_eq_zero (by omega)
      rw [List.append_nil] at ho
      clear hl3 hT
      go_wp2
      go_ret
      exact ⟨hg, .inl ⟨h8, ⟨G, Nat.le_of_eq hG, rfl, HoldsA.ofOwn ho (plOf_b hby k)⟩, hr⟩⟩
end Go.Proofs.Ytmahaccaglaldaa

namespace Go.Proofs.Ytmahaccaglaldaa
open Go.RowKit

theorem conv_rest {W : World} {v : Value} {xs : List Int} (h : RestV W v xs) : (convert 27 9 v).run Try.prog W = .ok (.string (strOfNums xs)) W := by
  rcases h.2 with ⟨rfl, rfl⟩ | ⟨b, o, c, rfl, _, _, h3⟩
  · exact run_convert_bytes_nil (P := Try.prog) W 27 5 Try.underlying27 Try.underlying5 0 0 9 Try.underlying9
  · refine run_convert_bytes_arg (P := Try.prog) W 27 5 Try.underlying27 Try.underlying5 b o xs.length c xs rfl ?_ 9 Try.underlying9
    intro i hi
    rw [h3 i xs[i] (List.getElem?_eq_getElem hi)]
    simp [hi]

theorem HoldsA.far {W : World} {g : Nat} {L : List (Int × Int)} (h : HoldsA W (some ⟨g, 0, none⟩) L) {a : Addr} (ha : a.block ≠ g) (v : Value) : HoldsA (W.setCell a v) (some ⟨g, 0, none⟩) L := by
  intro j hj
  obtain ⟨lb, lo, d, s, h1, h2, h3, h4, h5, h6, h7, h8, h9⟩ := h j hj
  have e := h1
  simp only [Option.some.injEq, Addr.mk.injEq, and_true] at e
  obtain ⟨rfl, rfl⟩ := e
  exact ⟨g, 0, d, s, rfl, by simpa using h2, h3, h4, h5, h6, h7, (setCell_far W a _ v (fun e => ha e.symm)).trans h8, (setCell_far W a _ v (fun e => ha e.symm)).trans h9⟩
theorem HoldsA.store12 {W : World} {g C : Nat} {L : List (Int × Int)} (h : HoldsA W (some ⟨g, 0, none⟩) L) (hC : C ≠ g) (p : Pkt) : HoldsA (store12 W C p) (some ⟨g, 0, none⟩) L :=
  HoldsA.far (HoldsA.far (HoldsA.far (HoldsA.far (HoldsA.far (HoldsA.far (HoldsA.far (HoldsA.far (HoldsA.far (HoldsA.far (HoldsA.far (HoldsA.far h (a := ⟨C, 0, none⟩) hC _) (a := ⟨C, 1, none⟩) hC _) (a := ⟨C, 2, none⟩) hC _) (a := ⟨C, 3, none⟩) hC _) (a := ⟨C, 4, none⟩) hC _) (a := ⟨C, 5, none⟩) hC _) (a := ⟨C, 6, none⟩) hC _) (a := ⟨C, 7, none⟩) hC _) (a := ⟨C, 8, none⟩) hC _) (a := ⟨C, 9, none⟩) hC _) (a := ⟨C, 10, none⟩) hC _) (a := ⟨C, 11, none⟩) hC _
end Go.Proofs.Ytmahaccaglaldaa
