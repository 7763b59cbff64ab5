import Derived.Test.YtakaadcpaeiccabGreatD1
namespace Go.Proofs.YtakaadcpaeiccabGreat
open Go.RowKit

def n4 (a b c d : Int) : Int := a * 16777216 + b * 65536 + c * 256 + d

theorem or_low (x y : Int) (hx : 0 ≤ x) (hx1 : x < 16777216) (hy : 0 ≤ y) (hy1 : y ≤ 255) : bits .or .u32 (x * 256) y = x * 256 + y := by
  rw [bits_join .u32 32 (by decide) wraps_u32 8 (x * 256) y (by omega) (by omega) (by omega) hy (by omega) (by omega)]

set_option maxRecDepth 100000 in
set_option maxHeartbeats 1000000 in
/-- Reading a number. -/
theorem number_any (R : Nat) (xs : List Int) (W : World) (h : Rd R xs W) :
    Calls Tryz.prog 87 #[.pointer (some ⟨R, 0, none⟩)] W fun e w' => (∃ a b c d ys, xs = a :: b :: c :: d :: ys ∧ e = .returned (.int .u32 (n4 a b c d)) ∧ Rd R ys w' ∧ W.grownBy w' (some R) ∧ Below R W w') ∨ (xs.length < 4 ∧ e = .panicked broken ∧ w' = W) := by
  go_enter Tryz.func87, Tryz.ntmps87
  go_wp2_with fail
  refine (take_any R 4 xs W h).mono ?_
  rintro e w1 (⟨hn, ⟨v, rfl, hv⟩, hrd, hg, hbl⟩ | ⟨hn, rfl, rfl⟩)
  · obtain ⟨x0, x1, x2, x3, ys, rfl⟩ : ∃ a b c d ys, xs = a :: b :: c :: d :: ys := by
      match xs, hn with
      | a :: b :: c :: d :: ys, _ => exact ⟨a, b, c, d, ys, rfl⟩
    obtain ⟨p0, q0, b, o, c, hv', c0⟩ := rest_cell hv (j := 0) (x := x0) rfl
    simp only [List.take_succ_cons, List.take_zero, List.length_cons, List.length_nil, Nat.zero_add, Nat.add_zero, Nat.reduceAdd] at hv' c0
    subst hv'
    obtain ⟨p1, q1, b1, o1, d1, e1, c1⟩ := rest_cell hv (j := 1) (x := x1) rfl
    obtain ⟨p2, q2, b2, o2, d2, e2, c2⟩ := rest_cell hv (j := 2) (x := x2) rfl
    obtain ⟨p3, q3, b3, o3, d3, e3, c3⟩ := rest_cell hv (j := 3) (x := x3) rfl
    simp only [Value.slice.injEq, Option.some.injEq, Addr.mk.injEq, and_true] at e1 e2 e3
    obtain ⟨⟨rfl, rfl⟩, h41, rfl⟩ := e1
    clear h41
    obtain ⟨⟨rfl, rfl⟩, h42, rfl⟩ := e2
    clear h42
    obtain ⟨⟨rfl, rfl⟩, h43, rfl⟩ := e3
    clear h43
    have hrd' : Rd R ys w1 := hrd
    clear hv hrd hn h
    go_wp2_with fail
    go_loop [3, 9] (fun n i => (i = .int .i64 0 ∧ n = .int .u32 0) ∨ (i = .int .i64 1 ∧ n = .int .u32 x0) ∨ (i = .int .i64 2 ∧ n = .int .u32 (x0 * 256 + x1)) ∨ (i = .int .i64 3 ∧ n = .int .u32 ((x0 * 256 + x1) * 256 + x2)) ∨ (i = .int .i64 4 ∧ n = .int .u32 (((x0 * 256 + x1) * 256 + x2) * 256 + x3))) (fun _ i => 4 - (intOf i).toNat)
    case atStart => exact .inl ⟨rfl, rfl⟩
    case round =>
      have k0 : Hid (bits .or .u32 0 x0 = x0) := by
        have := or_low 0 x0 (by omega) (by omega) p0 q0
        show bits .or .u32 0 x0 = x0
        simpa using this
      have k1 : Hid _ := or_low x0 x1 p0 (by omega) p1 q1
      have k2 : Hid _ := or_low (x0 * 256 + x1) x2 (by omega) (by omega) p2 q2
      have k3 : Hid _ := or_low ((x0 * 256 + x1) * 256 + x2) x3 (by omega) (by omega) p3 q3
      rcases hrel with ⟨rfl, rfl⟩ | ⟨rfl, rfl⟩ | ⟨rfl, rfl⟩ | ⟨rfl, rfl⟩ | ⟨rfl, rfl⟩
      · clear c1 c2 c3
        go_wp2
        go_round
        case rel => exact .inr (.inl ⟨rfl, by rw [k0.out]⟩)
        case measure => simp [intOf]
      · clear c0 c2 c3
        go_wp2
        go_round
        case rel => exact .inr (.inr (.inl ⟨rfl, by rw [k1.out]⟩))
        case measure => simp [intOf]
      · clear c0 c1 c3
        go_wp2
        go_round
        case rel => exact .inr (.inr (.inr (.inl ⟨rfl, by rw [k2.out]⟩)))
        case measure => simp [intOf]
      · clear c0 c1 c2
        go_wp2
        go_round
        case rel => exact .inr (.inr (.inr (.inr ⟨rfl, by rw [k3.out]⟩)))
        case measure => simp [intOf]
      · go_wp2
        go_ret
        refine .inl ⟨x0, x1, x2, x3, ys, ⟨rfl, rfl, rfl, rfl, rfl⟩, ret_int ?_, hrd', hg, hbl⟩
        unfold n4
        omega
  · exact ⟨rfl, .inr ⟨by omega, rfl, rfl⟩⟩
end Go.Proofs.YtakaadcpaeiccabGreat
