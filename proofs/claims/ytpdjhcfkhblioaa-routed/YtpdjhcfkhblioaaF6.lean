import Derived.Test.YtpdjhcfkhblioaaGH
import Derived.Test.YtpdjhcfkhblioaaGE
namespace Go.Proofs.Ytpdjhcfkhblioaa
open Go.RowKit Go.Maps

set_option maxRecDepth 100000 in
set_option maxHeartbeats 2000000 in
theorem rFind_no (T j : Nat) (d now : Int) (w : World) (hv : Calls Try.prog 79 #[.pointer (some ⟨T, 0, none⟩), .int .u32 d] (w.alloc (rtBox zeroR (.slice none 0 0))) fun e w' => e = .returned (.tuple #[.int .i64 j, .bool false]) ∧ ∃ q, w' = (w.alloc (rtBox zeroR (.slice none 0 0))).drewN q) :
    Calls Try.prog 37 #[.pointer (some ⟨T, 0, none⟩), .int .u32 d, .int .u64 now] w fun e w' => e = .returned (.tuple #[rtV zeroR (.slice none 0 0), .bool false]) ∧ Below w.heap.size w w' := by
  have hb0 : Below w.heap.size w (w.alloc (rtBox zeroR (.slice none 0 0))) := (Below.refl _ _).alloc (Nat.le_refl _) _
  have hZ0 := LnB.new zeroR (.slice none 0 0) w
  have HV := (show Hid _ from hv)
  clear hv
  dsimp only [rtBox, zeroR] at hb0 hZ0 HV
  go_enter Try.func37, Try.ntmps37
  go_wp2_with fail
  generalize World.alloc _ _ = W1 at hb0 hZ0 HV ⊢
  refine Calls.mono HV.out ?_
  rintro e w1 ⟨rfl, q, rfl⟩
  have hb := below_drewN hb0 q
  have hZ := hZ0.later (draws_below W1 q)
  clear HV hb0 hZ0
  generalize World.drewN _ _ = W2 at hb hZ ⊢
  obtain ⟨z0, z1, z2, z3, z4, z5, z6⟩ := hZ.cell
  have zf := hZ.free
  have hF := hZ.store zeroR (.slice none 0 0)
  have hG := hb.grown (grown_store7 W2 w.heap.size zeroR (.slice none 0 0)) hb.size (fun k e => by cases e; exact Nat.le_refl _)
  dsimp only [zeroR] at z0 z1 z2 z3 z4 z5 z6
  clear hb hZ
  go_wp2
  dsimp only [store7, zeroR] at hF hG
  generalize World.setCell _ _ _ = W8 at hF hG ⊢
  obtain ⟨q0, q1, q2, q3, q4, q5, q6⟩ := hF.cell
  exact bodyPost_ret (v := .tuple #[rtV zeroR (.slice none 0 0), .bool false]) (by simp [results, Try.results37, go_sem, q0, q1, q2, q3, q4, q5, q6, zeroR]) rfl ⟨rfl, hG⟩

set_option maxRecDepth 100000 in
set_option maxHeartbeats 2000000 in
theorem rFind_bad {me : Int} {T : Nat} {v : Value} {L : List (Rt × Value)} {j : Nat} {x : Rt} {u : Value} (d now : Int) (w : World) (h : RM me T v L w) (hp : L[j]? = some (x, u)) (hx : (x.valid && decide (x.exp > now)) = false)
    (hv : Calls Try.prog 79 #[.pointer (some ⟨T, 0, none⟩), .int .u32 d] (w.alloc (rtBox zeroR (.slice none 0 0))) fun e w' => e = .returned (.tuple #[.int .i64 j, .bool true]) ∧ ∃ q, w' = (w.alloc (rtBox zeroR (.slice none 0 0))).drewN q) :
    Calls Try.prog 37 #[.pointer (some ⟨T, 0, none⟩), .int .u32 d, .int .u64 now] w fun e w' => e = .returned (.tuple #[rtV zeroR (.slice none 0 0), .bool false]) ∧ Below w.heap.size w w' := by
  have hb0 : Below w.heap.size w (w.alloc (rtBox zeroR (.slice none 0 0))) := (Below.refl _ _).alloc (Nat.le_refl _) _
  have hZ0 := LnB.new zeroR (.slice none 0 0) w
  have hM0 := h.later hb0
  have hlen := h.len
  have hj := (List.getElem?_eq_some_iff.1 hp).1
  have hji : (j : Int) < (L.length : Int) := by omega
  have HV := (show Hid _ from hv)
  clear hv h
  dsimp only [rtBox, zeroR] at hb0 hZ0 HV hM0
  go_enter Try.func37, Try.ntmps37
  go_wp2_with fail
  generalize World.alloc _ _ = W1 at hb0 hZ0 HV hM0 ⊢
  refine Calls.mono HV.out ?_
  rintro e w1 ⟨rfl, q, rfl⟩
  have hb := below_drewN hb0 q
  have hZ := hZ0.later (draws_below W1 q)
  have hM := hM0.draws q
  clear HV hb0 hZ0 hM0
  generalize World.drewN _ _ = W2 at hb hZ hM ⊢
  obtain ⟨G, cap, rfl, hc, _⟩ := hM.at hp
  obtain ⟨t0, t1⟩ := hM.cell
  have c4 := hc 4 _ rfl
  have c5 := hc 5 _ rfl
  dsimp only at c4 c5
  obtain ⟨z0, z1, z2, z3, z4, z5, z6⟩ := hZ.cell
  have zf := hZ.free
  have hF := hZ.store zeroR (.slice none 0 0)
  have hG := hb.grown (grown_store7 W2 w.heap.size zeroR (.slice none 0 0)) hb.size (fun k e => by cases e; exact Nat.le_refl _)
  dsimp only [zeroR] at z0 z1 z2 z3 z4 z5 z6
  clear hb hZ hM hc hp
  cases hxv : x.valid
  · rw [hxv] at c4
    clear hx
    go_wp2
    dsimp only [store7, zeroR] at hF hG
    generalize World.setCell _ _ _ = W8 at hF hG ⊢
    obtain ⟨q0, q1, q2, q3, q4, q5, q6⟩ := hF.cell
    exact bodyPost_ret (v := .tuple #[rtV zeroR (.slice none 0 0), .bool false]) (by simp [results, Try.results37, go_sem, q0, q1, q2, q3, q4, q5, q6, zeroR]) rfl ⟨rfl, hG⟩
  · rw [hxv] at c4
    have hle : decide (x.exp ≤ now) = true := by
      rw [hxv, Bool.true_and, decide_eq_false_iff_not] at hx
      exact decide_eq_true (by omega)
    clear hx
    go_wp2
    dsimp only [store7, zeroR] at hF hG
    generalize World.setCell _ _ _ = W8 at hF hG ⊢
    obtain ⟨q0, q1, q2, q3, q4, q5, q6⟩ := hF.cell
    exact bodyPost_ret (v := .tuple #[rtV zeroR (.slice none 0 0), .bool false]) (by simp [results, Try.results37, go_sem, q0, q1, q2, q3, q4, q5, q6, zeroR]) rfl ⟨rfl, hG⟩

set_option maxRecDepth 100000 in
set_option maxHeartbeats 2000000 in
theorem rFind_yes {me : Int} {T : Nat} {v : Value} {L : List (Rt × Value)} {j : Nat} {x : Rt} {u : Value} (d now : Int) (w : World) (h : RM me T v L w) (hp : L[j]? = some (x, u)) (hx : (x.valid && decide (x.exp > now)) = true)
    (hv : Calls Try.prog 79 #[.pointer (some ⟨T, 0, none⟩), .int .u32 d] (w.alloc (rtBox zeroR (.slice none 0 0))) fun e w' => e = .returned (.tuple #[.int .i64 j, .bool true]) ∧ ∃ q, w' = (w.alloc (rtBox zeroR (.slice none 0 0))).drewN q) :
    Calls Try.prog 37 #[.pointer (some ⟨T, 0, none⟩), .int .u32 d, .int .u64 now] w fun e w' => e = .returned (.tuple #[rtV x u, .bool true]) ∧ Below w.heap.size w w' := by
  have hb0 : Below w.heap.size w (w.alloc (rtBox zeroR (.slice none 0 0))) := (Below.refl _ _).alloc (Nat.le_refl _) _
  have hZ0 := LnB.new zeroR (.slice none 0 0) w
  have hM0 := h.later hb0
  have hlen := h.len
  have hj := (List.getElem?_eq_some_iff.1 hp).1
  have hji : (j : Int) < (L.length : Int) := by omega
  have HV := (show Hid _ from hv)
  obtain ⟨ao, cu, hu, _⟩ := row_form (h.bef _ (List.mem_of_getElem? hp))
  dsimp only at hu
  subst hu
  clear hv h
  dsimp only [rtBox, zeroR] at hb0 hZ0 HV hM0
  go_enter Try.func37, Try.ntmps37
  go_wp2_with fail
  generalize World.alloc _ _ = W1 at hb0 hZ0 HV hM0 ⊢
  refine Calls.mono HV.out ?_
  rintro e w1 ⟨rfl, q, rfl⟩
  have hb := below_drewN hb0 q
  have hZ := hZ0.later (draws_below W1 q)
  have hM := hM0.draws q
  clear HV hb0 hZ0 hM0
  generalize World.drewN _ _ = W2 at hb hZ hM ⊢
  obtain ⟨G, cap, rfl, hc, _⟩ := hM.at hp
  obtain ⟨t0, t1⟩ := hM.cell
  have c0 := hc 0 _ rfl
  have c1 := hc 1 _ rfl
  have c2 := hc 2 _ rfl
  have c3 := hc 3 _ rfl
  have c4 := hc 4 _ rfl
  have c5 := hc 5 _ rfl
  have c6 := hc 6 _ rfl
  dsimp only at c0 c1 c2 c3 c4 c5 c6
  rw [Nat.add_zero] at c0
  have hxv : x.valid = true := by revert hx; cases x.valid <;> simp
  have hle : decide (x.exp ≤ now) = false := by
    rw [hxv, Bool.true_and, decide_eq_true_eq] at hx
    exact decide_eq_false (by omega)
  obtain ⟨z0, z1, z2, z3, z4, z5, z6⟩ := hZ.cell
  have zf := hZ.free
  have hF := hZ.store x (.slice ao x.bef.length cu)
  have hG := hb.grown (grown_store7 W2 w.heap.size x (.slice ao x.bef.length cu)) hb.size (fun k e => by cases e; exact Nat.le_refl _)
  dsimp only [zeroR] at z0 z1 z2 z3 z4 z5 z6
  have hxv' := (show Hid _ from hxv)
  rw [hxv] at c4
  clear hb hZ hM hc hp hx hxv
  go_wp2
  dsimp only [store7] at hF hG
  rw [hxv'.out] at hF hG
  generalize World.setCell _ _ _ = W8 at hF hG ⊢
  obtain ⟨q0, q1, q2, q3, q4, q5, q6⟩ := hF.cell
  exact bodyPost_ret (v := .tuple #[rtV x (.slice ao x.bef.length cu), .bool true]) (by simp [results, Try.results37, go_sem, q0, q1, q2, q3, q4, q5, q6]) rfl ⟨rfl, hG⟩

theorem rFind_any (me : Int) (T : Nat) (S : Nat → Prop) (A : List Rt) (d now : Int) (w : World) (h : RTab me T S A w) :
    Calls Try.prog 37 #[.pointer (some ⟨T, 0, none⟩), .int .u32 d, .int .u64 now] w fun e w' => ∃ u, e = .returned (.tuple #[rtV (findL A d now).1 u, .bool (findL A d now).2]) ∧ w'.ownsRow 0 23 1 u (findL A d now).1.bef.length ((findL A d now).1.bef.map encU) ∧ Below w.heap.size w w' := by
  obtain ⟨v, L, rfl, hM, hS⟩ := h
  have hb0 : Below w.heap.size w (w.alloc (rtBox zeroR (.slice none 0 0))) := (Below.refl _ _).alloc (Nat.le_refl _) _
  have HL := line_any (hM.later hb0) d
  unfold findL
  cases hl : lineOf (L.map (·.1)) d with
  | none =>
    rw [hl] at HL
    refine (rFind_no T _ d now w HL).mono ?_
    rintro e w' ⟨rfl, hb⟩
    exact ⟨_, rfl, nil_row _, hb⟩
  | some x =>
    rw [hl] at HL
    obtain ⟨u, hp, hxd⟩ := hM.line hl
    dsimp only
    cases hx : (x.valid && decide (x.exp > now)) with
    | false =>
      rw [if_neg (by simp)]
      refine (rFind_bad d now w hM hp hx HL).mono ?_
      rintro e w' ⟨rfl, hb⟩
      exact ⟨_, rfl, nil_row _, hb⟩
    | true =>
      rw [if_pos rfl]
      refine (rFind_yes d now w hM hp hx HL).mono ?_
      rintro e w' ⟨rfl, hb⟩
      exact ⟨_, rfl, step_append_kept (hM.bef _ (List.mem_of_getElem? hp)) hb, hb⟩
end Go.Proofs.Ytpdjhcfkhblioaa
