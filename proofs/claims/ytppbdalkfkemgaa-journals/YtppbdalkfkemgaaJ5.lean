import Derived.Test.YtppbdalkfkemgaaJ4
namespace Go.Proofs.Ytppbdalkfkemgaa
open Go.RowKit

theorem info_rec : (Try.prog.info? 41).map (fun i => (i.zero, i.size, i.bytes)) = some (some (.agg #[.bool false, .int .u32 0, .int .u32 0]), 3, 12) := by kernel_rfl

/-- The rest of a slice of bytes. -/
theorem slice_from {w : World} {v : Value} {xs : List Int} (hv : RestV w v xs) (k : Nat) (hk : k ≤ xs.length) (i : Int) (hi : i = k) :
    ∃ u, (∀ W : World, (Instr.slice 27 v (some (.int .i64 i)) none none).run Try.prog W = .ok u W) ∧ ∀ W : World, RestV W v xs → RestV W u (xs.drop k) := by
  have ht : Try.prog.underlying 27 = some (.slice (Try.prog.elem 27)) := by simp [Program.elem, Try.underlying27]
  have hz : ∀ w, (Go.sizeOf (Try.prog.elem 27)).run Try.prog w = .ok 1 w := by
    intro w
    simp [go_sem, Program.elem, Try.underlying27]
  subst hi
  rcases hv.2 with ⟨rfl, rfl⟩ | ⟨b, o, c, rfl, h1, h2, _⟩
  · obtain rfl : k = 0 := by simpa using hk
    refine ⟨.slice none 0 0, fun W => ?_, fun W h => h⟩
    rw [run_slice_l W 27 _ _ _ ht .i64 _ (by omega) (by omega), hz]
    rfl
  · refine ⟨sliced (some ⟨b, o, none⟩) k xs.length c 1, fun W => ?_, fun W h => ?_⟩
    · rw [run_slice_l W 27 _ _ _ ht .i64 _ (by omega) (by omega), hz]
      rfl
    · rcases h.2 with ⟨he, _⟩ | ⟨b', o', c', he, _, _, h3⟩
      · cases he
      · simp only [Value.slice.injEq, Option.some.injEq, Addr.mk.injEq, and_true] at he
        obtain ⟨⟨rfl, rfl⟩, _, rfl⟩ := he
        have hp := (RestV.part h.1 h1 h2 h3 k hk).2
        unfold sliced
        split
        · rename_i hc
          have hx : xs.drop k = [] := List.drop_eq_nil_of_le (by omega)
          rw [hx]
          refine ⟨by simp, .inr ⟨b, o, c - k, ?_, by simp, by omega, by simp⟩⟩
          rw [show xs.length - k = ([] : List Int).length by simp; omega]
        · have e : (some (⟨b, o, none⟩ : Addr)).map (·.add (k * 1)) = some ⟨b, o + k, none⟩ := by simp [Addr.add]
          rw [e]
          exact hp

/-- Records as cells. -/
def RC (L : List (Bool × Int × Int)) : List Value := L.flatMap fun x => [.bool x.1, .int .u32 x.2.1, .int .u32 x.2.2]
theorem RC_length (L : List (Bool × Int × Int)) : (RC L).length = L.length * 3 := by
  induction L with
  | nil => rfl
  | cons a L ih =>
    simp only [RC, List.flatMap_cons, List.length_append, List.length_cons, List.length_nil] at ih ⊢
    omega
theorem RC_append (a b : List (Bool × Int × Int)) : RC (a ++ b) = RC a ++ RC b := by simp [RC]
theorem RC_one (x : Bool × Int × Int) : RC [x] = [.bool x.1, .int .u32 x.2.1, .int .u32 x.2.2] := rfl

/-- The records that stand one behind the other. -/
def rdJ : Nat → List Int → List (Bool × Int × Int)
  | 0, _ => []
  | f + 1, xs => if okR xs then (rO xs, rA xs, rS xs) :: rdJ f (xs.drop 13) else []
def jl (xs : List Int) : List (Bool × Int × Int) := rdJ xs.length xs
theorem okR_len {xs : List Int} (h : okR xs = true) : 13 ≤ xs.length := by
  simp only [okR, Bool.and_eq_true, decide_eq_true_eq] at h
  exact h.1
theorem rdJ_no {xs : List Int} (h : okR xs = false) (f : Nat) : rdJ f xs = [] := by
  cases f <;> simp [rdJ, h]
theorem rdJ_yes {xs : List Int} (h : okR xs = true) {f : Nat} (hf : xs.length ≤ f) : rdJ f xs = (rO xs, rA xs, rS xs) :: rdJ (f - 1) (xs.drop 13) := by
  have := okR_len h
  obtain ⟨g, rfl⟩ : ∃ g, f = g + 1 := ⟨f - 1, by omega⟩
  simp [rdJ, h]

theorem cells_rec (W : World) (o : Bool) (a s : Int) : ∀ (j : Nat) (u : Value), (RC [(o, a, s)])[j]? = some u → (W.alloc (recBox o a s)).cell? ((⟨W.heap.size, 0, none⟩ : Addr).add j) = some u := by
  intro j u hj
  have hh := heap_alloc_new W (recBox o a s)
  rw [RC_one] at hj
  match j, hj with
  | 0, hj => exact (cell_of_row _ _ 0 _ _ _ hh).trans hj
  | 1, hj => exact (cell_of_row _ _ 1 _ _ _ hh).trans hj
  | 2, hj => exact (cell_of_row _ _ 2 _ _ _ hh).trans hj
  | j + 3, hj => simp at hj
theorem one_rec (o : Bool) (a s : Int) : ∀ u ∈ RC [(o, a, s)], u.oneCell' = true := by
  intro u hu
  simp only [RC_one, List.mem_cons, List.not_mem_nil, or_false] at hu
  rcases hu with rfl | rfl | rfl <;> rfl

set_option maxRecDepth 100000 in
set_option maxHeartbeats 2000000 in
theorem ReadJournal_any (v : Value) (xs : List Int) (hxs : xs.length ≤ 1000000) (w : World) (hv : RestV w v xs) :
    Calls Try.prog 19 #[v] w fun e w' => ∃ u, e = .returned (.tuple #[u, .int .i64 (13 * (jl xs).length : Nat)]) ∧ Below w.heap.size w w' ∧ w'.ownsRow w.heap.size 41 3 u (jl xs).length (RC (jl xs)) := by
  obtain ⟨i0, hi, hz0, hz1, hz2⟩ := info_parts info_rec
  go_enter Try.func19, Try.ntmps19
  go_wp2_with fail
  go_loopw [4, 5] (fun l t wr => ∃ (k : Nat) (L : List (Bool × Int × Int)), L.length = k ∧ 13 * k ≤ xs.length ∧ t = .int .i64 (13 * (k : Int)) ∧ wr.ownsRow w.heap.size 41 3 l k (RC L) ∧ Below w.heap.size w wr ∧ jl xs = L ++ rdJ (xs.length - k) (xs.drop (13 * k))) (fun _ t _ => xs.length - (intOf t).toNat)
  case atStart => exact ⟨0, [], rfl, by omega, rfl, ⟨rfl, .inl ⟨rfl, rfl⟩⟩, Below.refl _ _, rfl⟩
  case round =>
    obtain ⟨k, L, hLk, h13, rfl, ho, hB, hj⟩ := hrel
    obtain ⟨u, hsl, hu⟩ := slice_from hv (13 * k) h13 (13 * (k : Int)) (by omega)
    have hur := hu _ (hv.kept hB)
    have hj' := (show Hid _ from hj)
    have hLk' := (show Hid _ from hLk)
    clear hj hu hLk
    go_wp2_with fail
    refine (readRecord_any _ _ _ hur).mono ?_
    rintro e W1 ⟨rfl, hb1⟩
    have ho1 := ho.kept (w' := W1) (row := none) ⟨hb1.os, hb1.tape, hb1.output, hb1.size, fun k hk _ => hb1.block k hk⟩ (by cases u4.ownBlock <;> simp)
    have hB1 := hB.trans (hb1.mono hB.size)
    clear ho hB hb1 hsl hur
    have hdl : (xs.drop (13 * k)).length = xs.length - 13 * k := List.length_drop
    cases hok : okR (xs.drop (13 * k))
    · have hj0 : jl xs = L := by rw [hj'.out, rdJ_no hok, List.append_nil]
      have hj1 : Hid ((jl xs).length = k) := by
        show (jl xs).length = k
        rw [hj0]; exact hLk'.out
      have hj2 : Hid (RC (jl xs) = RC L) := by
        show RC (jl xs) = RC L
        rw [hj0]
      clear hj0 hok hdl
      have ho2 := ho1.alloc (recBox false 0 0)
      have hB2 : Below w.heap.size w (W1.alloc (recBox false 0 0)) := hB1.alloc hB1.size _
      dsimp only [recBox] at ho2 hB2
      go_wp2
      go_ret2
      refine ⟨u4, ?_, hB2, ?_⟩
      · rw [hj1.out]
        simp
      · rw [hj1.out, hj2.out]
        exact ho2
    · have hge := okR_len hok
      have hst : Hid (rdJ (xs.length - k) (xs.drop (13 * k)) = (rO (xs.drop (13 * k)), rA (xs.drop (13 * k)), rS (xs.drop (13 * k))) :: rdJ (xs.length - (k + 1)) (xs.drop (13 * (k + 1)))) := by
        show _ = _
        rw [rdJ_yes hok (by omega), List.drop_drop, show 13 * k + 13 = 13 * (k + 1) by omega, show xs.length - k - 1 = xs.length - (k + 1) by omega]
      generalize rO (xs.drop (13 * k)) = o at hst ⊢
      generalize rA (xs.drop (13 * k)) = a at hst ⊢
      generalize rS (xs.drop (13 * k)) = s at hst ⊢
      clear hok
      have ho2 := (ho1.alloc (recBox o a s)).alloc (recBox o a s)
      have hc2 := cells_rec (W1.alloc (recBox o a s)) o a s
      have hB2 : Below w.heap.size w ((W1.alloc (recBox o a s)).alloc (recBox o a s)) := (hB1.alloc hB1.size _).alloc (by have := hB1.size; simp; omega) _
      have hs1 := hB1.size
      have hlt := ho2.lt
      rw [World.size_alloc] at hc2
      dsimp only [recBox] at ho2 hc2 hB2 hlt
      go_wp2_with (at_builtin; refine wpList_append_own _ rfl _ _ 42 rfl w.heap.size 41 i0 (.agg #[.bool false, .int .u32 0, .int .u32 0]) 3 12 Try.underlying42 hi hz0 hz1 hz2 rfl (by decide) u4 k (RC L) rfl ho2 ⟨W1.heap.size + 1, 0, none⟩ 1 1 (RC [(o, a, s)]) rfl rfl hc2 (one_rec o a s) ?c1 ?c2 ?c3 ?_)
      case c1 => unfold maxLen; omega
      case c2 => omega
      case c3 => simp; omega
      intro v' W3 ho3 hg3 _
      have hB3 := hB2.grown hg3 hB2.size (fun k hk => (hlt k hk).1)
      clear ho2 hc2 hB2 hg3 hlt
      go_wp2
      go_roundw
      case rel =>
        refine ⟨k + 1, L ++ [(o, a, s)], by rw [List.length_append, hLk'.out]; rfl, by omega, by go_num, ?_, hB3, ?_⟩
        · rw [RC_append]
          exact ho3
        · rw [hj'.out, hst.out, List.append_assoc]
          rfl
      case measure => simp [intOf]; omega
end Go.Proofs.Ytppbdalkfkemgaa
