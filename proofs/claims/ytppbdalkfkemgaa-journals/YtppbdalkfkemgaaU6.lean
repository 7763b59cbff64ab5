import Derived.Test.YtppbdalkfkemgaaU5
namespace Go.Proofs.Ytppbdalkfkemgaa
open Go.RowKit Go.Sort

/-- How many bits a byte has. -/
def tab : ByteArray := ⟨#[0, 1, 2, 2, 3, 3, 3, 3, 4, 4, 4, 4, 4, 4, 4, 4, 5, 5, 5, 5, 5, 5, 5, 5, 5, 5, 5, 5, 5, 5, 5, 5, 6, 6, 6, 6, 6, 6, 6, 6, 6, 6, 6, 6, 6, 6, 6, 6, 6, 6, 6, 6, 6, 6, 6, 6, 6, 6, 6, 6, 6, 6, 6, 6, 7, 7, 7, 7, 7, 7, 7, 7, 7, 7, 7, 7, 7, 7, 7, 7, 7, 7, 7, 7, 7, 7, 7, 7, 7, 7, 7, 7, 7, 7, 7, 7, 7, 7, 7, 7, 7, 7, 7, 7, 7, 7, 7, 7, 7, 7, 7, 7, 7, 7, 7, 7, 7, 7, 7, 7, 7, 7, 7, 7, 7, 7, 7, 7, 8, 8, 8, 8, 8, 8, 8, 8, 8, 8, 8, 8, 8, 8, 8, 8, 8, 8, 8, 8, 8, 8, 8, 8, 8, 8, 8, 8, 8, 8, 8, 8, 8, 8, 8, 8, 8, 8, 8, 8, 8, 8, 8, 8, 8, 8, 8, 8, 8, 8, 8, 8, 8, 8, 8, 8, 8, 8, 8, 8, 8, 8, 8, 8, 8, 8, 8, 8, 8, 8, 8, 8, 8, 8, 8, 8, 8, 8, 8, 8, 8, 8, 8, 8, 8, 8, 8, 8, 8, 8, 8, 8, 8, 8, 8, 8, 8, 8, 8, 8, 8, 8, 8, 8, 8, 8, 8, 8, 8, 8, 8, 8, 8, 8, 8, 8, 8, 8, 8, 8, 8, 8, 8, 8, 8, 8, 8, 8]⟩
set_option maxRecDepth 100000 in
theorem tab_ok : ∀ k, (h : k < tab.size) → tab[k].toNat ≤ 8 ∧ (0 < k → 2 ^ tab[k].toNat ≤ 2 * k) := of_decide_eq_true (by kernel_rfl)
theorem w64 {x : Int} (h : 0 ≤ x) (h' : x < 1000) : wrap64 x = x := by
  unfold wrap64
  omega

set_option maxRecDepth 100000 in
set_option maxHeartbeats 4000000 in
theorem len64_any (x : Nat) (hx : x ≤ 1000000) (w : World) :
    Calls Try.prog 127 #[.int .u64 x] w fun e w' => ∃ r : Nat, e = .returned (.int .i64 r) ∧ r ≤ 32 ∧ (0 < x → 2 ^ r ≤ 2 * x) ∧ w' = w := by
  have h0 : decide ((4294967296 : Int) ≤ (x : Int)) = false := decide_eq_false (by omega)
  by_cases h1 : 65536 ≤ x
  · have h1' : decide ((65536 : Int) ≤ (x : Int)) = true := decide_eq_true (by omega)
    go_enter Try.func127, Try.ntmps127
    go_wp2
    generalize hT : UInt8.toNat _ = t
    have hP : t ≤ 8 ∧ (0 < x / 65536 → 2 ^ t ≤ 2 * (x / 65536)) := by
      rw [← hT]
      exact tab_ok _ _
    clear hT
    rw [w64 (x := (t : Int)) (by omega) (by omega), w64 (x := 16 + (t : Int)) (by omega) (by omega)]
    go_ret
    refine ⟨16 + t, by go_num, by omega, fun _ => ?_, rfl⟩
    rw [Nat.pow_add]
    have := hP.2 (by omega)
    omega
  · have h1' : decide ((65536 : Int) ≤ (x : Int)) = false := decide_eq_false (by omega)
    by_cases h2 : 256 ≤ x
    · have h2' : decide ((256 : Int) ≤ (x : Int)) = true := decide_eq_true (by omega)
      go_enter Try.func127, Try.ntmps127
      go_wp2
      generalize hT : UInt8.toNat _ = t
      have hP : t ≤ 8 ∧ (0 < x / 256 → 2 ^ t ≤ 2 * (x / 256)) := by
        rw [← hT]
        exact tab_ok _ _
      clear hT
      rw [w64 (x := (t : Int)) (by omega) (by omega), w64 (x := 8 + (t : Int)) (by omega) (by omega)]
      go_ret
      refine ⟨8 + t, by go_num, by omega, fun _ => ?_, rfl⟩
      rw [Nat.pow_add]
      have := hP.2 (by omega)
      omega
    · have h2' : decide ((256 : Int) ≤ (x : Int)) = false := decide_eq_false (by omega)
      go_enter Try.func127, Try.ntmps127
      go_wp2
      generalize hT : UInt8.toNat _ = t
      have hP : t ≤ 8 ∧ (0 < x → 2 ^ t ≤ 2 * x) := by
        rw [← hT]
        exact tab_ok _ _
      clear hT
      rw [w64 (x := (t : Int)) (by omega) (by omega), w64 (x := (t : Int)) (by omega) (by omega)]
      go_ret
      exact ⟨t, rfl, by omega, hP.2, rfl⟩

set_option maxHeartbeats 1000000 in
theorem len_any (x : Nat) (hx : x ≤ 1000000) (w : World) :
    Calls Try.prog 114 #[.int .u64 x] w fun e w' => ∃ r : Nat, e = .returned (.int .i64 r) ∧ r ≤ 32 ∧ (0 < x → 2 ^ r ≤ 2 * x) ∧ w' = w := by
  go_enter Try.func114, Try.ntmps114
  go_wp2_with fail
  refine (len64_any x hx w).mono ?_
  rintro e w' ⟨r, rfl, h1, h2, rfl⟩
  go_wp2
  go_ret
  exact ⟨r, rfl, h1, h2, rfl⟩
set_option maxHeartbeats 1000000 in
theorem nextPow_any (x : Nat) (hx : x ≤ 1000000) (w : World) :
    Calls Try.prog 130 #[.int .i64 x] w fun e w' => ∃ r : Nat, e = .returned (.int .u64 ((2 ^ r : Nat) : Int)) ∧ r ≤ 32 ∧ (0 < x → 2 ^ r ≤ 2 * x) ∧ w' = w := by
  go_enter Try.func130, Try.ntmps130
  go_wp2_with fail
  refine (len_any x hx w).mono ?_
  rintro e w' ⟨r, rfl, h1, h2, rfl⟩
  go_wp2
  have hle : 2 ^ r ≤ 2 ^ 32 := Nat.pow_le_pow_right (by omega) h1
  have hc : ((2 : Int) ^ r) = ((2 ^ r : Nat) : Int) := by simp
  have e : IntKind.u64.wrap ((2 : Int) ^ r) = ((2 ^ r : Nat) : Int) := by
    rw [hc]
    generalize 2 ^ r = q at hle
    simp only [IntKind.wrap, IntKind.signed, IntKind.bits, Bool.false_and, Bool.false_eq_true, if_false]
    omega
  rw [e]
  go_ret
  exact ⟨r, rfl, h1, h2, rfl⟩

theorem xor_b (a b : Int) : 0 ≤ bits .xor .u64 a b ∧ bits .xor .u64 a b < 18446744073709551616 := by
  show 0 ≤ IntKind.u64.wrap _ ∧ IntKind.u64.wrap _ < _
  rw [IntKind.wrap_u64]
  omega
theorem xb_cell {W : World} {S : Nat} {x : Int} {t : TypeId} (h : W.heap[S]? = some (.cells #[.int .u64 x] t)) : W.cell? ⟨S, 0, none⟩ = some (.int .u64 x) ∧ W.frozen? ⟨S, 0, none⟩ = false :=
  ⟨cell_of_row W S 0 _ _ _ h, by simp [World.frozen?, h]⟩
theorem xb_set {W : World} {S : Nat} {x : Int} {t : TypeId} (h : W.heap[S]? = some (.cells #[.int .u64 x] t)) (y : Int) : (W.setCell ⟨S, 0, none⟩ (.int .u64 y)).drew.heap[S]? = some (.cells #[.int .u64 y] t) := by
  show (W.setCell ⟨S, 0, none⟩ (.int .u64 y)).heap[S]? = _
  simp [World.setCell, Array.getElem?_modify, h]
theorem xb_grn (W : World) (S : Nat) (u : Value) : W.grownBy (W.setCell ⟨S, 0, none⟩ u).drew (some S) := (grn_st (grn_rfl W (some S)) 0 u).trans (grown_dN _ 1 _)

set_option maxRecDepth 100000 in
set_option maxHeartbeats 4000000 in
theorem next_any (S : Nat) (x : Int) (w : World) (h : w.heap[S]? = some (.cells #[.int .u64 x] 187)) :
    Calls Try.prog 131 #[.pointer (some ⟨S, 0, none⟩)] w fun e w' => ∃ y : Int, e = .returned (.int .u64 y) ∧ (0 ≤ y ∧ y < 18446744073709551616) ∧ w'.heap[S]? = some (.cells #[.int .u64 y] 187) ∧ w.grownBy w' (some S) := by
  have b1 := xor_b x (IntKind.u64.wrap (x * 8192))
  obtain ⟨c0, f0⟩ := xb_cell h
  have h1 := xb_set h (bits .xor .u64 x (IntKind.u64.wrap (x * 8192)))
  have g1 := xb_grn w S (.int .u64 (bits .xor .u64 x (IntKind.u64.wrap (x * 8192))))
  go_enter Try.func131, Try.ntmps131
  go_wp2_with fail
  go_region
  generalize World.drew _ = W1 at h1 g1 ⊢
  generalize bits .xor .u64 x (IntKind.u64.wrap (x * 8192)) = y at b1 h1
  clear c0 f0 h
  have b2 := xor_b y (y / 128)
  obtain ⟨c0, f0⟩ := xb_cell h1
  have h2 := xb_set h1 (bits .xor .u64 y (y / 128))
  have g2 := xb_grn W1 S (.int .u64 (bits .xor .u64 y (y / 128)))
  have y0 := b1.1
  have y1 := b1.2
  go_wp2_with fail
  go_region
  generalize World.drew _ = W2 at h2 g2 ⊢
  generalize bits .xor .u64 y (y / 128) = z at b2 h2
  clear c0 f0 h1 b1 y0 y1
  have b3 := xor_b z (IntKind.u64.wrap (z * 131072))
  obtain ⟨c0, f0⟩ := xb_cell h2
  have h3 := xb_set h2 (bits .xor .u64 z (IntKind.u64.wrap (z * 131072)))
  have g3 := xb_grn W2 S (.int .u64 (bits .xor .u64 z (IntKind.u64.wrap (z * 131072))))
  go_wp2_with fail
  go_region
  generalize World.drew _ = W3 at h3 g3 ⊢
  generalize bits .xor .u64 z (IntKind.u64.wrap (z * 131072)) = q at b3 h3
  clear c0 f0 h2 b2
  obtain ⟨c0, f0⟩ := xb_cell h3
  go_wp2
  go_ret
  exact ⟨q, rfl, b3, h3, (g1.trans g2).trans g3⟩
end Go.Proofs.Ytppbdalkfkemgaa
