/- Proved: for every list of times and every list of ints, meshkeep.Timely returns true and leaves its arguments as they were (the statement Rows.TimelySaid, with no condition of ours). -/
import Derived.Test.YtjkjepoeiabpiaaRows
import Derived.Test.YtjkjepoeiabpiaaQ11
import Derived.ProofKit
import Derived.ChangeMaps5
namespace Go.Proofs.Ytjkjepoeiabpiaa
open Go.ChangeShapes Go.WideShapes Go.ChangeAt Go.RowKit

theorem own : ownKnob Try.prog.godebug = none := by kernel_rfl
theorem laidOut : laidOutB Try.prog = true := by kernel_rfl
theorem rc60 : Try.prog.cellsOf 60 = 1 := by kernel_rfl
theorem rc3 : Try.prog.cellsOf 3 = 1 := by kernel_rfl

theorem flat_one {α β : Type} (g : α → β) (L : List α) : (L.flatMap fun x => [g x]) = L.map g := by
  induction L with
  | nil => rfl
  | cons a L ih => rw [List.flatMap_cons, ih]; rfl
theorem open_times {H : Type} {enc : TypeId × Value → H} {W : World} {fuel : Nat} {c : Value} {x : DataW H × List MemPlace} (h : DataW.trod enc Try.prog W 0 (fun _ => true) true fuel 72 [c] = some x) :
    ∃ ao n cap L, c = .slice ao n cap ∧ L.length = n ∧ n ≤ maxLen ∧ HoldsC W ao (Us L) ∧ ∀ x ∈ L, 0 ≤ x ∧ x < 18446744073709551616 := by
  obtain ⟨ao, n, cap, L, h1, h2, h3, h4, h5⟩ := open_rows Try.underlying72 rc60 (by decide) (fun x : Int => [.int .u64 x]) (fun x => 0 ≤ x ∧ x < 18446744073709551616) (fun _ => rfl) (fun n cs y hd hl => by
    obtain ⟨u, rfl⟩ : ∃ u, cs = [u] := by
      match cs, hl with
      | [u], _ => exact ⟨u, rfl⟩
    obtain ⟨a, e0, _, w1⟩ := DataW.trod_int Try.underlying60 hd
    simp at e0
    subst e0
    have q := bounds_u64 w1
    exact ⟨a, rfl, q.1, by omega⟩) h
  rw [flat_one] at h4
  exact ⟨ao, n, cap, L, h1, h2, h3, h4, h5⟩
theorem open_nums {H : Type} {enc : TypeId × Value → H} {W : World} {fuel : Nat} {c : Value} {x : DataW H × List MemPlace} (h : DataW.trod enc Try.prog W 0 (fun _ => true) true fuel 73 [c] = some x) :
    ∃ ao n cap L, c = .slice ao n cap ∧ L.length = n ∧ n ≤ maxLen ∧ HoldsC W ao (Is L) ∧ ∀ x ∈ L, I64 x := by
  obtain ⟨ao, n, cap, L, h1, h2, h3, h4, h5⟩ := open_rows Try.underlying73 rc3 (by decide) (fun x : Int => [.int .i64 x]) I64 (fun _ => rfl) (fun n cs y hd hl => by
    obtain ⟨u, rfl⟩ : ∃ u, cs = [u] := by
      match cs, hl with
      | [u], _ => exact ⟨u, rfl⟩
    obtain ⟨a, e0, _, w1⟩ := DataW.trod_int Try.underlying3 hd
    simp at e0
    subst e0
    exact ⟨a, rfl, bounds_i64 w1⟩) h
  rw [flat_one] at h4
  exact ⟨ao, n, cap, L, h1, h2, h3, h4, h5⟩

set_option maxRecDepth 100000 in
set_option maxHeartbeats 1000000 in
theorem Timely_long (ao co : Option Addr) (n c m d : Nat) (h : 4096 < n) (w : World) :
    Calls Try.prog 9 #[.slice ao n c, .slice co m d] w fun e w' => e = .returned (.bool true) ∧ Below w.heap.size w w' := by
  have e1 : decide (4096 < (n : Int)) = true := decide_eq_true (by omega)
  go_enter Try.func9, Try.ntmps9
  go_wp2
  go_ret
  exact ⟨rfl, Below.refl _ _⟩
set_option maxRecDepth 100000 in
set_option maxHeartbeats 1000000 in
theorem Timely_much (ao co : Option Addr) (n c m d : Nat) (hn : ¬ 4096 < n) (h : 4096 < m) (w : World) :
    Calls Try.prog 9 #[.slice ao n c, .slice co m d] w fun e w' => e = .returned (.bool true) ∧ Below w.heap.size w w' := by
  have e0 : decide (4096 < (n : Int)) = false := decide_eq_false (by omega)
  have e1 : decide (4096 < (m : Int)) = true := decide_eq_true (by omega)
  go_enter Try.func9, Try.ntmps9
  go_wp2
  go_ret
  exact ⟨rfl, Below.refl _ _⟩

theorem Timely_any (ao co : Option Addr) (n c m d : Nat) (A C : List Int) (hA : A.length = n) (hC : C.length = m) (hAb : ∀ x ∈ A, 0 ≤ x ∧ x < 18446744073709551616) (hCb : ∀ x ∈ C, I64 x) (w : World) (hAc : HoldsC w ao (Us A)) (hCc : HoldsC w co (Is C)) :
    Calls Try.prog 9 #[.slice ao n c, .slice co m d] w fun e w' => e = .returned (.bool true) ∧ Below w.heap.size w w' := by
  by_cases h : 4096 < n
  · exact Timely_long ao co n c m d h w
  by_cases h2 : 4096 < m
  · exact Timely_much ao co n c m d h h2 w
  · exact Timely_short ao co n c m d A C hA hC (by omega) (by omega) hAb hCb w hAc hCc

set_option maxRecDepth 100000 in
theorem timely_lifted (os : Os) (started : os.Started) (H : Type) (enc : TypeId × Value → H) :
    ReturnsInHanded {} Try.checked os 9 .any (Rows.timelySpec.pre6 enc Try.prog Try.f9 Rows.timelyRow.domain false) (Rows.timelySpec.post enc Try.prog Try.f9 false true false false) := by
  refine returnsInHanded_of_change (C := Try.checked) own started (by kernel_rfl) Try.func9
    (ChangeSpec.witness6 (enc := enc) (C := Try.checked) false ⟨#[], #[.slice none 0 0, .slice none 0 0], []⟩ 8 (by kernel_rfl) (by kernel_rfl) (by kernel_rfl) (by kernel_rfl)) ?_
  intro W base args ds gs before hval0 hW _ _
  have hval : ∀ (j : Nat) t v, Try.f9.params[j]? = some t → args[j]? = some v → Value.okWide Try.prog W .any base t v := hval0
  have hW' := hW
  obtain ⟨p, q, hA0, hV, rfl, _, _⟩ := hW
  have hA : DataW.TrodAll enc Try.prog W 0 (fun _ => true) true Try.f9.params.toList args.toList ds p := hA0
  rw [Try.params9] at hA hval
  obtain ⟨v0, v1, d0, d1, p0, p1, rfl, rfl, rfl, h0, h1⟩ := trodAll_two hA
  obtain ⟨rfl, rfl⟩ := trodVars_none hV
  have h0k := h0
  have h1k := h1
  obtain ⟨a0, len0, cap0, rfl⟩ := okWide_slice Try.underlying72 (hval 0 72 v0 rfl rfl)
  obtain ⟨a1, len1, cap1, rfl⟩ := okWide_slice Try.underlying73 (hval 1 73 v1 rfl rfl)
  obtain ⟨fuel, hf⟩ := h0
  obtain ⟨fuel1, hf1⟩ := h1
  obtain ⟨ao, n, c, L, he, hn, _, hL, hbd⟩ := open_times hf
  cases he
  obtain ⟨co, m, d, C, he, hm, _, hC, hcd⟩ := open_nums hf1
  cases he
  clear hA0 hval0
  simp only [List.append_nil] at hW'
  have hlt : ∀ x ∈ p0 ++ p1, x.block < W.heap.size := fun x hx => by simpa using hW'.lt x hx
  refine (Timely_any a0 a1 len0 cap0 len1 cap1 L C hn hm hbd hcd W hL hC).mono fun e W' ⟨he, hb⟩ => ?_
  subst he
  refine ⟨_, rfl, _, _, _, [], p0 ++ p1, [], hW', trodAll_mk1 (shut_bool Try.underlying4 _), ?_, rfl, hb.frame _, fun h => by cases h⟩
  have ha : DataW.Trod enc Try.prog W' 0 (fun b => decide (b < W.heap.size)) true 72 (.slice a0 len0 cap0) d0 p0 := Below.trod laidOut (by kernel_rfl) (of_decide_eq_true (by kernel_rfl)) h0k hb (fun x hx => hlt x (by simp [hx]))
  have hs : DataW.Trod enc Try.prog W' 0 (fun b => decide (b < W.heap.size)) true 73 (.slice a1 len1 cap1) d1 p1 := Below.trod laidOut (by kernel_rfl) (of_decide_eq_true (by kernel_rfl)) h1k hb (fun x hx => hlt x (by simp [hx]))
  exact trodAll_mk2 ha hs

theorem timely_holds : Rows.TimelySaid :=
  OpenClaim.holds_of_wide 9 Try.f9 rfl rfl rfl rfl rfl rfl rfl ⟨rfl, rfl, rfl, rfl, rfl⟩ rfl rfl rfl rfl rfl (by kernel_rfl) Try.func9 (by kernel_rfl)
    (of_decide_eq_true (by kernel_rfl)) (by unfold Func.isWrapper; rw [if_neg (of_decide_eq_false (by kernel_rfl))]; exact ⟨rfl, rfl⟩)
    (fun os started H enc _ => timely_lifted os started H enc)
#print axioms timely_holds
end Go.Proofs.Ytjkjepoeiabpiaa
