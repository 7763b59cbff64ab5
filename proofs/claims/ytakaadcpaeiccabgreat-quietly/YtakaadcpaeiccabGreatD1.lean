import Derived.Test.YtakaadcpaeiccabGreatGB
import Derived.Recover
import Derived.Defers
import Derived.Lib.EndianBits
namespace Go.Proofs.YtakaadcpaeiccabGreat
open Go.RowKit

/-- What a broken frame panics with. -/
@[reducible] def broken : List PanicEntry := [{ v := .iface 47 (.int .i64 1), recovered := false }]

theorem require_ok (w : World) : Calls Tryz.prog 85 #[.bool true] w fun e w' => e = .returned (.tuple #[]) ∧ w' = w := by
  go_enter Tryz.func85, Tryz.ntmps85
  go_wp2
  go_returns
  exact ⟨rfl, rfl⟩

theorem require_no (w : World) : Calls Tryz.prog 85 #[.bool false] w fun e w' => e = .panicked broken ∧ w' = w := by
  go_enter Tryz.func85, Tryz.ntmps85
  go_wp2
  exact ⟨rfl, rfl, rfl⟩

/-- A slice of bytes, and what it holds. -/
def RestV (W : World) (v : Value) (xs : List Int) : Prop :=
  (∀ x ∈ xs, 0 ≤ x ∧ x ≤ 255) ∧ ((v = .slice none 0 0 ∧ xs = []) ∨
    ∃ b o c, v = .slice (some ⟨b, o, none⟩) xs.length c ∧ xs.length ≤ c ∧ c ≤ 9223372036854775807 ∧ ∀ (j : Nat) (x : Int), xs[j]? = some x → W.cell? ⟨b, o + j, none⟩ = some (.int .u8 x))

/-- A reader, and what it has still to read. -/
def Rd (R : Nat) (xs : List Int) (W : World) : Prop := ∃ v, W.cell? ⟨R, 0, none⟩ = some v ∧ W.frozen? ⟨R, 0, none⟩ = false ∧ RestV W v xs

theorem RestV.set {W : World} {v u u' : Value} {xs : List Int} {R : Nat} (h : RestV W v xs) (hR : W.cell? ⟨R, 0, none⟩ = some u) (hu : ∀ k n, u ≠ .int k n) : RestV (W.setCell ⟨R, 0, none⟩ u') v xs := by
  refine ⟨h.1, ?_⟩
  rcases h.2 with h | ⟨b, o, c, rfl, h1, h2, h3⟩
  · exact .inl h
  · refine .inr ⟨b, o, c, rfl, h1, h2, fun j x hx => ?_⟩
    have hc := h3 j x hx
    rw [World.cell?_setCell_other _ _ _ _ (fun e => by rw [← e, hR] at hc; exact hu _ _ (Option.some.inj hc))]
    exact hc

theorem RestV.part {W : World} {b o c : Nat} {xs : List Int} (hb : ∀ x ∈ xs, 0 ≤ x ∧ x ≤ 255) (h1 : xs.length ≤ c) (h2 : c ≤ 9223372036854775807) (h3 : ∀ (j : Nat) (x : Int), xs[j]? = some x → W.cell? ⟨b, o + j, none⟩ = some (.int .u8 x)) (n : Nat) (hn : n ≤ xs.length) :
    RestV W (.slice (some ⟨b, o, none⟩) n c) (xs.take n) ∧ RestV W (.slice (some ⟨b, o + n, none⟩) (xs.length - n) (c - n)) (xs.drop n) := by
  refine ⟨⟨fun x hx => hb x (List.mem_of_mem_take hx), .inr ⟨b, o, c, ?_, ?_, h2, fun j x hx => ?_⟩⟩, ⟨fun x hx => hb x (List.mem_of_mem_drop hx), .inr ⟨b, o + n, c - n, ?_, ?_, by omega, fun j x hx => ?_⟩⟩⟩
  · rw [List.length_take, Nat.min_eq_left hn]
  · rw [List.length_take]; omega
  · rw [List.getElem?_take] at hx
    split at hx
    · exact h3 j x hx
    · cases hx
  · rw [List.length_drop]
  · rw [List.length_drop]; omega
  · rw [List.getElem?_drop] at hx
    have := h3 (n + j) x hx
    rw [Nat.add_assoc]
    exact this

set_option maxHeartbeats 1000000 in
theorem take_some (R : Nat) (b o l c : Nat) (n : Nat) (w : World) (hn : n ≤ l) (hlc : l ≤ c) (hr : w.cell? ⟨R, 0, none⟩ = some (.slice (some ⟨b, o, none⟩) l c)) (hf : w.frozen? ⟨R, 0, none⟩ = false) :
    Calls Tryz.prog 89 #[.pointer (some ⟨R, 0, none⟩), .int .i64 n] w fun e w' => e = .returned (.slice (some ⟨b, o, none⟩) n c) ∧
      ((c = n ∧ w' = w.setCell ⟨R, 0, none⟩ (.slice (some ⟨b, o, none⟩) (l - n) 0)) ∨ w' = w.setCell ⟨R, 0, none⟩ (.slice (some ⟨b, o + n, none⟩) (l - n) (c - n))) := by
  go_enter Tryz.func89, Tryz.ntmps89
  go_wp2_with (go_at_call 85; refine (require_ok _).mono ?_; rintro e w1 ⟨rfl, rfl⟩)
  case inl => go_ret; exact ⟨rfl, .inl rfl⟩
  case inr => go_ret; exact ⟨rfl, rfl⟩

set_option maxHeartbeats 1000000 in
theorem take_short (R : Nat) (a : Option Addr) (l c : Nat) (n : Nat) (w : World) (hn : l < n) (hr : w.cell? ⟨R, 0, none⟩ = some (.slice a l c)) :
    Calls Tryz.prog 89 #[.pointer (some ⟨R, 0, none⟩), .int .i64 n] w fun e w' => e = .panicked broken ∧ w' = w := by
  have hd : decide (n ≤ l) = false := decide_eq_false (by omega)
  go_enter Tryz.func89, Tryz.ntmps89
  go_wp2_with (go_at_call 85; refine (require_no _).mono ?_; rintro e w1 ⟨rfl, rfl⟩)
  exact ⟨rfl, rfl, rfl⟩

set_option maxHeartbeats 1000000 in
theorem take_nil (R : Nat) (w : World) (hr : w.cell? ⟨R, 0, none⟩ = some (.slice none 0 0)) (hf : w.frozen? ⟨R, 0, none⟩ = false) :
    Calls Tryz.prog 89 #[.pointer (some ⟨R, 0, none⟩), .int .i64 0] w fun e w' => e = .returned (.slice none 0 0) ∧ w' = w.setCell ⟨R, 0, none⟩ (.slice none 0 0) := by
  go_enter Tryz.func89, Tryz.ntmps89
  go_wp2_with (go_at_call 85; refine (require_ok _).mono ?_; rintro e w1 ⟨rfl, rfl⟩)
  all_goals (go_ret; exact ⟨rfl, rfl⟩)

/-- What reading may leave. -/
def TakeP (R : Nat) (n : Nat) (xs : List Int) (W : World) (e : Ending) (w' : World) : Prop :=
  (n ≤ xs.length ∧ (∃ v, e = .returned v ∧ RestV w' v (xs.take n)) ∧ Rd R (xs.drop n) w' ∧ W.grownBy w' (some R) ∧ Below R W w') ∨ (xs.length < n ∧ e = .panicked broken ∧ w' = W)

theorem grown_set (W : World) (R : Nat) (u : Value) : W.grownBy (W.setCell ⟨R, 0, none⟩ u) (some R) := ⟨rfl, rfl, rfl, by simp, fun k _ hk => Below.heap_setCell W ⟨R, 0, none⟩ u k (fun e => hk (by simp [e]))⟩
theorem below_set (W : World) (R : Nat) (u : Value) : Below R W (W.setCell ⟨R, 0, none⟩ u) := (Below.refl _ _).setCell (p := ⟨R, 0, none⟩) (Nat.le_refl _) _

/-- Reading n bytes. -/
theorem take_any (R n : Nat) (xs : List Int) (W : World) (h : Rd R xs W) :
    Calls Tryz.prog 89 #[.pointer (some ⟨R, 0, none⟩), .int .i64 n] W fun e w' => TakeP R n xs W e w' := by
  obtain ⟨v, hr, hf, hb, hv⟩ := h
  by_cases hn : n ≤ xs.length
  · rcases hv with ⟨rfl, rfl⟩ | ⟨b, o, c, rfl, h1, h2, h3⟩
    · obtain rfl : n = 0 := by simpa using hn
      refine (take_nil R W hr hf).mono ?_
      rintro e w' ⟨rfl, rfl⟩
      have hr0 : ∀ W' : World, RestV W' (.slice none 0 0) [] := fun W' => ⟨by simp, .inl ⟨rfl, rfl⟩⟩
      exact .inl ⟨hn, ⟨_, rfl, hr0 _⟩, ⟨_, World.cell?_setCell_same _ _ _ hr, (World.frozen?_setCell _ _ _ _).trans hf, hr0 _⟩, grown_set _ _ _, below_set _ _ _⟩
    · have hpart := RestV.part hb h1 h2 h3 n hn
      refine (take_some R b o xs.length c n W hn h1 hr hf).mono ?_
      rintro e w' ⟨rfl, ⟨hcn, rfl⟩ | rfl⟩
      · refine .inl ⟨hn, ⟨_, rfl, hpart.1.set hr (by simp)⟩, ⟨_, World.cell?_setCell_same _ _ _ hr, (World.frozen?_setCell _ _ _ _).trans hf, ?_⟩, grown_set _ _ _, below_set _ _ _⟩
        have hx : xs.drop n = [] := List.drop_eq_nil_of_le (by omega)
        rw [hx]
        refine ⟨by simp, .inr ⟨b, o, 0, ?_, by simp, by omega, by simp⟩⟩
        rw [show xs.length - n = ([] : List Int).length by simp; omega]
      · exact .inl ⟨hn, ⟨_, rfl, hpart.1.set hr (by simp)⟩, ⟨_, World.cell?_setCell_same _ _ _ hr, (World.frozen?_setCell _ _ _ _).trans hf, hpart.2.set hr (by simp)⟩, grown_set _ _ _, below_set _ _ _⟩
  · have hs : ∃ a c, v = .slice a xs.length c := by
      rcases hv with ⟨rfl, rfl⟩ | ⟨b, o, c, rfl, _⟩
      · exact ⟨_, _, rfl⟩
      · exact ⟨_, _, rfl⟩
    obtain ⟨a, c, rfl⟩ := hs
    refine (take_short R a xs.length c n W (by omega) hr).mono ?_
    rintro e w' ⟨rfl, rfl⟩
    exact .inr ⟨by omega, rfl, rfl⟩

theorem rest_cell {W : World} {v : Value} {xs : List Int} (h : RestV W v xs) {j : Nat} {x : Int} (hx : xs[j]? = some x) :
    0 ≤ x ∧ x ≤ 255 ∧ ∃ b o c, v = .slice (some ⟨b, o, none⟩) xs.length c ∧ W.cell? ⟨b, o + j, none⟩ = some (.int .u8 x) := by
  have hb := h.1 x (List.mem_of_getElem? hx)
  rcases h.2 with ⟨_, rfl⟩ | ⟨b, o, c, rfl, _, _, h3⟩
  · simp at hx
  · exact ⟨hb.1, hb.2, b, o, c, rfl, h3 j x hx⟩

set_option maxHeartbeats 1000000 in
/-- Reading one byte. -/
theorem one_any (R : Nat) (xs : List Int) (W : World) (h : Rd R xs W) :
    Calls Tryz.prog 84 #[.pointer (some ⟨R, 0, none⟩)] W fun e w' => (∃ x ys, xs = x :: ys ∧ 0 ≤ x ∧ x ≤ 255 ∧ e = .returned (.int .i64 x) ∧ Rd R ys w' ∧ W.grownBy w' (some R) ∧ Below R W w') ∨ (xs = [] ∧ e = .panicked broken ∧ w' = W) := by
  go_enter Tryz.func84, Tryz.ntmps84
  go_wp2_with fail
  refine (take_any R 1 xs W h).mono ?_
  rintro e w1 (⟨hn, ⟨v, rfl, hv⟩, hrd, hg, hbl⟩ | ⟨hn, rfl, rfl⟩)
  · obtain ⟨x, ys, rfl⟩ : ∃ x ys, xs = x :: ys := by
      cases xs with
      | nil => simp at hn
      | cons x ys => exact ⟨x, ys, rfl⟩
    obtain ⟨hx0, hx1, b, o, c, hv', hcell⟩ := rest_cell hv (j := 0) (x := x) rfl
    simp only [List.take_succ_cons, List.take_zero, List.length_cons, List.length_nil, Nat.zero_add, Nat.add_zero] at hv' hcell
    subst hv'
    clear hv
    go_wp2
    go_ret
    exact .inl ⟨x, ys, rfl, hx0, hx1, rfl, hrd, hg, hbl⟩
  · obtain rfl : xs = [] := List.eq_nil_of_length_eq_zero (by omega)
    exact ⟨rfl, .inr ⟨rfl, rfl, rfl⟩⟩
end Go.Proofs.YtakaadcpaeiccabGreat
