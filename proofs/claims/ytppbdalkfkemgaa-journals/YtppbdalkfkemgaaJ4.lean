import Derived.Test.YtppbdalkfkemgaaJ3
namespace Go.Proofs.Ytppbdalkfkemgaa
open Go.RowKit

/-- A block that is a record's box. -/
def RBk (B : Nat) (o : Bool) (a s : Int) (W : World) : Prop := W.heap[B]? = some (recBox o a s)
theorem RBk.cell {B : Nat} {o : Bool} {a s : Int} {W : World} (h : RBk B o a s W) :
    W.cell? ⟨B, 0, none⟩ = some (.bool o) ∧ W.cell? ⟨B, 1, none⟩ = some (.int .u32 a) ∧ W.cell? ⟨B, 2, none⟩ = some (.int .u32 s) :=
  ⟨cell_of_row W B 0 _ _ _ h, cell_of_row W B 1 _ _ _ h, cell_of_row W B 2 _ _ _ h⟩
theorem RBk.free {B : Nat} {o : Bool} {a s : Int} {W : World} (h : RBk B o a s W) (i : Nat) : W.frozen? ⟨B, i, none⟩ = false := by
  unfold RBk at h
  simp [World.frozen?, h]
theorem RBk.lt {B : Nat} {o : Bool} {a s : Int} {W : World} (h : RBk B o a s W) : B < W.heap.size := (Array.getElem?_eq_some_iff.1 h).1
theorem RBk.below {B N : Nat} {o : Bool} {a s : Int} {W W' : World} (h : RBk B o a s W) (hb : Below N W W') (hN : B < N) : RBk B o a s W' := (hb.block _ hN).trans h
theorem RBk.later {B : Nat} {o : Bool} {a s : Int} {W W' : World} (h : RBk B o a s W) (hb : Below W.heap.size W W') : RBk B o a s W' := h.below hb h.lt
theorem RBk.new (o : Bool) (a s : Int) (W : World) : RBk W.heap.size o a s (W.alloc (recBox o a s)) := heap_alloc_new W _

/-- A record stored whole. -/
@[reducible] def store3 (W : World) (B : Nat) (o : Bool) (a s : Int) : World := ((W.setCell ⟨B, 0, none⟩ (.bool o)).setCell ⟨B, 1, none⟩ (.int .u32 a)).setCell ⟨B, 2, none⟩ (.int .u32 s)
theorem RBk.store {B : Nat} {o : Bool} {a s : Int} {W : World} (h : RBk B o a s W) (o' : Bool) (a' s' : Int) : RBk B o' a' s' (store3 W B o' a' s') := by
  unfold RBk at h ⊢
  simp [World.setCell, Array.getElem?_modify, h]
theorem below_store3 {N B : Nat} {w W : World} (h : Below N w W) (hN : N ≤ B) (o : Bool) (a s : Int) : Below N w (store3 W B o a s) :=
  ((h.setCell (p := ⟨B, 0, none⟩) hN _).setCell (p := ⟨B, 1, none⟩) hN _).setCell (p := ⟨B, 2, none⟩) hN _

theorem free_of {W : World} {B : Nat} {c : Array Value} {e : TypeId} (h : W.heap[B]? = some (.cells c e (0, 0))) (i : Nat) : W.frozen? ⟨B, i, none⟩ = false := by
  simp [World.frozen?, h]

/-- What thirteen bytes say, and whether they are a record. -/
def rO (xs : List Int) : Bool := xs.getD 0 0 == 1
def rA (xs : List Int) : Int := n4 (xs.getD 1 0) (xs.getD 2 0) (xs.getD 3 0) (xs.getD 4 0)
def rS (xs : List Int) : Int := n4 (xs.getD 5 0) (xs.getD 6 0) (xs.getD 7 0) (xs.getD 8 0)
def okR (xs : List Int) : Bool := decide (13 ≤ xs.length) && decide (xs.take 13 = recB (rO xs) (rA xs) (rS xs))

theorem n4_b' {a b c d : Int} (ha : 0 ≤ a ∧ a ≤ 255) (hb : 0 ≤ b ∧ b ≤ 255) (hc : 0 ≤ c ∧ c ≤ 255) (hd : 0 ≤ d ∧ d ≤ 255) : 0 ≤ n4 a b c d ∧ n4 a b c d < 4294967296 := by
  unfold n4
  omega

theorem list13 {xs : List Int} (h : 13 ≤ xs.length) : ∃ x0 x1 x2 x3 x4 x5 x6 x7 x8 x9 x10 x11 x12 ys, xs = x0 :: x1 :: x2 :: x3 :: x4 :: x5 :: x6 :: x7 :: x8 :: x9 :: x10 :: x11 :: x12 :: ys := by
  match xs, h with
  | x0 :: x1 :: x2 :: x3 :: x4 :: x5 :: x6 :: x7 :: x8 :: x9 :: x10 :: x11 :: x12 :: ys, _ => exact ⟨x0, x1, x2, x3, x4, x5, x6, x7, x8, x9, x10, x11, x12, ys, rfl⟩

set_option maxRecDepth 100000 in
set_option maxHeartbeats 1000000 in
theorem readRecord_short (v : Value) (xs : List Int) (w : World) (hv : RestV w v xs) (hs : xs.length < 13) :
    Calls Try.prog 67 #[v] w fun e w' => e = .returned (.tuple #[recV false 0 0, .bool false]) ∧ Below w.heap.size w w' := by
  obtain ⟨a, c, rfl⟩ : ∃ a c, v = .slice a xs.length c := by
    rcases hv.2 with ⟨rfl, rfl⟩ | ⟨b, o, c, rfl, _⟩
    · exact ⟨_, _, rfl⟩
    · exact ⟨_, _, rfl⟩
  have hd : decide ((xs.length : Int) < 13) = true := decide_eq_true (by omega)
  clear hv
  go_enter Try.func67, Try.ntmps67
  go_wp2
  go_returns
  exact ⟨rfl, (Below.refl _ _).alloc (Nat.le_refl _) _⟩

set_option maxRecDepth 100000 in
set_option maxHeartbeats 1000000 in
theorem readRecord_long (v : Value) (xs : List Int) (w : World) (hv : RestV w v xs) (hs : 13 ≤ xs.length) :
    Calls Try.prog 67 #[v] w fun e w' => e = .returned (.tuple #[if okR xs then recV (rO xs) (rA xs) (rS xs) else recV false 0 0, .bool (okR xs)]) ∧ Below w.heap.size w w' := by
  obtain ⟨b, o, c, rfl, h1, h2, h3⟩ : ∃ b o c, v = .slice (some ⟨b, o, none⟩) xs.length c ∧ xs.length ≤ c ∧ c ≤ 9223372036854775807 ∧ ∀ (j : Nat) (x : Int), xs[j]? = some x → w.cell? ⟨b, o + j, none⟩ = some (.int .u8 x) := by
    rcases hv.2 with ⟨rfl, rfl⟩ | h
    · simp at hs
    · exact h
  have hp := (RestV.part hv.1 h1 h2 h3 13 hs).1
  have hd : decide ((xs.length : Int) < 13) = false := decide_eq_false (by omega)
  have hx := hv.1
  obtain ⟨x0, x1, x2, x3, x4, x5, x6, x7, x8, x9, x10, x11, x12, ys, hxs⟩ := list13 hs
  have hO : rO xs = (x0 == 1) := by rw [hxs]; rfl
  have hA : rA xs = n4 x1 x2 x3 x4 := by rw [hxs]; rfl
  have hS : rS xs = n4 x5 x6 x7 x8 := by rw [hxs]; rfl
  have ht : xs.take 13 = [x0, x1, x2, x3, x4, x5, x6, x7, x8, x9, x10, x11, x12] := by rw [hxs]; rfl
  have hk : okR xs = decide ([x0, x1, x2, x3, x4, x5, x6, x7, x8, x9, x10, x11, x12] = recB (x0 == 1) (n4 x1 x2 x3 x4) (n4 x5 x6 x7 x8)) := by
    unfold okR
    rw [hO, hA, hS, ht, decide_eq_true hs, Bool.true_and]
  have hbA : 0 ≤ n4 x1 x2 x3 x4 ∧ n4 x1 x2 x3 x4 < 4294967296 := by
    rw [hxs] at hx
    exact n4_b' (hx x1 (by simp)) (hx x2 (by simp)) (hx x3 (by simp)) (hx x4 (by simp))
  have hbS : 0 ≤ n4 x5 x6 x7 x8 ∧ n4 x5 x6 x7 x8 < 4294967296 := by
    rw [hxs] at hx
    exact n4_b' (hx x5 (by simp)) (hx x6 (by simp)) (hx x7 (by simp)) (hx x8 (by simp))
  rw [hO, hA, hS]
  rw [ht] at hp
  have hk' := (show Hid _ from hk)
  generalize okR xs = ok at hk' ⊢
  clear hv h3 hx hxs hO hA hS ht hk
  have hZ : RBk w.heap.size false 0 0 ((w.alloc (recBox false 0 0)).alloc (.cells #[.slice (some ⟨b, o, none⟩) 13 c] 114)) := (RBk.new false 0 0 w).later ((Below.refl _ _).alloc (Nat.le_refl _) _)
  have hB : Below w.heap.size w ((w.alloc (recBox false 0 0)).alloc (.cells #[.slice (some ⟨b, o, none⟩) 13 c] 114)) := ((Below.refl _ _).alloc (Nat.le_refl _) _).alloc (by simp) _
  have hR : Rd (w.heap.size + 1) [x0, x1, x2, x3, x4, x5, x6, x7, x8, x9, x10, x11, x12] ((w.alloc (recBox false 0 0)).alloc (.cells #[.slice (some ⟨b, o, none⟩) 13 c] 114)) := by
    have hh := heap_alloc_new (w.alloc (recBox false 0 0)) (.cells #[.slice (some ⟨b, o, none⟩) 13 c] 114)
    rw [World.size_alloc] at hh
    exact ⟨_, cell_of_row _ _ 0 _ _ _ hh, free_of hh 0, hp.kept hB⟩
  dsimp only [recBox] at hZ hB hR
  go_enter Try.func67, Try.ntmps67
  go_wp2_with fail
  generalize World.alloc _ _ = W1 at hZ hB hR ⊢
  refine (one_any _ _ _ hR).mono ?_
  rintro e W2 (⟨x, zs, he, hx0, hx1, rfl, hR2, hg2, hb2⟩ | ⟨he, _⟩)
  case inr => cases he
  cases he
  have hZ2 := hZ.below hb2 (Nat.lt_succ_self _)
  have hB2 := hB.trans (hb2.mono (Nat.le_succ _))
  clear hZ hB hR hg2 hb2
  go_wp2_with fail
  refine (number_any _ _ _ hR2).mono ?_
  rintro e W3 (⟨a', b', c', d', zs, he, rfl, hR3, hg3, hb3⟩ | ⟨he, _⟩)
  case inr => simp at he
  cases he
  have hZ3 := hZ2.below hb3 (Nat.lt_succ_self _)
  have hB3 := hB2.trans (hb3.mono (Nat.le_succ _))
  clear hZ2 hB2 hR2 hg3 hb3
  go_wp2_with fail
  refine (number_any _ _ _ hR3).mono ?_
  rintro e W4 (⟨a', b', c', d', zs, he, rfl, hR4, hg4, hb4⟩ | ⟨he, _⟩)
  case inr => simp at he
  cases he
  have hZ4 := hZ3.below hb4 (Nat.lt_succ_self _)
  have hB4 := hB3.trans (hb4.mono (Nat.le_succ _))
  clear hZ3 hB3 hR3 hg4 hb4 hR4
  have hN := RBk.new (x0 == 1) (n4 x1 x2 x3 x4) (n4 x5 x6 x7 x8) W4
  have hbn : Below W4.heap.size W4 (W4.alloc (recBox (x0 == 1) (n4 x1 x2 x3 x4) (n4 x5 x6 x7 x8))) := (Below.refl _ _).alloc (Nat.le_refl _) _
  have hZ5 := hZ4.later hbn
  have hB5 := hB4.trans (hbn.mono hB4.size)
  dsimp only [recBox] at hN hZ5 hB5
  clear hbn hZ4 hB4
  go_wp2_with fail
  clear hN
  have hN := RBk.new (x0 == 1) (n4 x1 x2 x3 x4) (n4 x5 x6 x7 x8) W4
  dsimp only [recBox] at hN
  generalize W4.heap.size = R5 at hN ⊢
  generalize World.alloc _ _ = W5 at hN hZ5 hB5 ⊢
  refine (WriteRecord_any (x0 == 1) (n4 x1 x2 x3 x4) (n4 x5 x6 x7 x8) hbA.1 hbA.2 hbS.1 hbS.2 _).mono ?_
  rintro e W6 ⟨v6, rfl, hb6, hnn6, hown6⟩
  have hN6 := hN.later hb6
  have hZ6 := hZ5.later hb6
  have hB6 := hB5.trans (hb6.mono hB5.size)
  have hp6 := hp.kept hB6
  have hr6 : RestV W6 v6 (recB (x0 == 1) (n4 x1 x2 x3 x4) (n4 x5 x6 x7 x8)) := rest_row (base := W5.heap.size + 1) hown6 (recB_b hbA.1 hbA.2 hbS.1 hbS.2)
  clear hN hZ5 hB5 hb6 hnn6 hown6 hp
  go_wp2_with fail
  refine (Equal_any _ _ _ _ _ hp6 hr6).mono ?_
  rintro e W7 ⟨rfl, rfl⟩
  rw [← hk'.out]
  clear hk' hr6 hp6 hbA hbS
  obtain ⟨n0, n1, n2⟩ := hN6.cell
  obtain ⟨z0, z1, z2⟩ := hZ6.cell
  have zf := hZ6.free
  have hw := hZ6.lt
  cases ok
  · have hF := hZ6.store false 0 0
    have hG := below_store3 hB6 (Nat.le_refl _) false 0 0
    go_wp2
    dsimp only [store3] at hF hG
    generalize World.setCell _ _ _ = W8 at hF hG ⊢
    obtain ⟨q0, q1, q2⟩ := hF.cell
    exact bodyPost_ret (v := .tuple #[recV false 0 0, .bool false]) (by simp [results, Try.results67, go_sem, q0, q1, q2]) rfl ⟨rfl, hG⟩
  · have hF := hZ6.store (x0 == 1) (n4 x1 x2 x3 x4) (n4 x5 x6 x7 x8)
    have hG := below_store3 hB6 (Nat.le_refl _) (x0 == 1) (n4 x1 x2 x3 x4) (n4 x5 x6 x7 x8)
    go_wp2
    dsimp only [store3] at hF hG
    generalize World.setCell _ _ _ = W8 at hF hG ⊢
    obtain ⟨q0, q1, q2⟩ := hF.cell
    exact bodyPost_ret (v := .tuple #[recV (x0 == 1) (n4 x1 x2 x3 x4) (n4 x5 x6 x7 x8), .bool true]) (by simp [results, Try.results67, go_sem, q0, q1, q2]) rfl ⟨rfl, hG⟩

theorem readRecord_any (v : Value) (xs : List Int) (w : World) (hv : RestV w v xs) :
    Calls Try.prog 67 #[v] w fun e w' => e = .returned (.tuple #[if okR xs then recV (rO xs) (rA xs) (rS xs) else recV false 0 0, .bool (okR xs)]) ∧ Below w.heap.size w w' := by
  by_cases hs : 13 ≤ xs.length
  · exact readRecord_long v xs w hv hs
  · have hk : okR xs = false := by simp [okR, hs]
    rw [hk]
    exact readRecord_short v xs w hv (by omega)
end Go.Proofs.Ytppbdalkfkemgaa
