/- Proved: for every packet that can be read and every string, meshkeep.Turns returns true and leaves its arguments as they were (the statement Rows.TurnsSaid, with no condition of ours). -/
import Derived.Test.YtmahaccaglaldaaRows
import Derived.Test.YtmahaccaglaldaaT4
import Derived.Test.YtmahaccaglaldaaO1
import Derived.ProofKit
import Derived.ChangeMaps5
namespace Go.Proofs.Ytmahaccaglaldaa
open Go.ChangeShapes Go.WideShapes Go.ChangeAt Go.RowKit

theorem own : ownKnob Try.prog.godebug = none := by kernel_rfl
theorem laidOut : laidOutB Try.prog = true := by kernel_rfl

set_option maxRecDepth 100000 in
set_option maxHeartbeats 1000000 in
theorem Turns_long (p : Pkt) (s : ByteArray) (h : 65536 < s.size) (w : World) :
    Calls Try.prog 5 #[p.val, .string s] w fun e w' => e = .returned (.bool true) ∧ Below w.heap.size w w' := by
  have e1 : decide (65536 < (s.size : Int)) = true := decide_eq_true (by omega)
  go_enter Try.func5, Try.ntmps5
  go_wp2
  go_ret
  exact ⟨rfl, (Below.refl _ _).alloc (Nat.le_refl _) _⟩

set_option maxRecDepth 100000 in
set_option maxHeartbeats 1000000 in
theorem Turns_big (p : Pkt) (s : ByteArray) (hs : ¬ 65536 < s.size) (h : 65536 < p.pay.size) (w : World) :
    Calls Try.prog 5 #[p.val, .string s] w fun e w' => e = .returned (.bool true) ∧ Below w.heap.size w w' := by
  have e0 : decide (65536 < (s.size : Int)) = false := decide_eq_false (by omega)
  have e1 : decide (65536 < (p.pay.size : Int)) = true := decide_eq_true (by omega)
  go_enter Try.func5, Try.ntmps5
  go_wp2
  go_ret
  exact ⟨rfl, (Below.refl _ _).alloc (Nat.le_refl _) _⟩

set_option maxRecDepth 100000 in
set_option maxHeartbeats 1000000 in
theorem Turns_many (p : Pkt) (s : ByteArray) (hs : ¬ 65536 < s.size) (h0 : ¬ 65536 < p.pay.size) (h : 4096 < p.ln) (w : World) :
    Calls Try.prog 5 #[p.val, .string s] w fun e w' => e = .returned (.bool true) ∧ Below w.heap.size w w' := by
  have e0 : decide (65536 < (s.size : Int)) = false := decide_eq_false (by omega)
  have e1 : decide (65536 < (p.pay.size : Int)) = false := decide_eq_false (by omega)
  have e2 : decide (4096 < (p.ln : Int)) = true := decide_eq_true (by omega)
  go_enter Try.func5, Try.ntmps5
  go_wp2
  go_ret
  exact ⟨rfl, (Below.refl _ _).alloc (Nat.le_refl _) _⟩

theorem Turns_any (p : Pkt) (hn : p.Num) (L : List (Int × Int)) (s : ByteArray) (w : World) (hL : HoldsL w p L) :
    Calls Try.prog 5 #[p.val, .string s] w fun e w' => e = .returned (.bool true) ∧ Below w.heap.size w w' := by
  by_cases hs : 65536 < s.size
  · exact Turns_long p s hs w
  by_cases h0 : 65536 < p.pay.size
  · exact Turns_big p s hs h0 w
  by_cases h1 : 4096 < p.ln
  · exact Turns_many p s hs h0 h1 w
  have hp := hn.wf (by omega) (by omega)
  cases hg : p.goodB
  · exact Turns_bad p hp hg (by omega) s (by omega) L w hL
  · exact Turns_good p hp hg (by omega) s (by omega) L w hL

set_option maxRecDepth 100000 in
theorem turns_lifted (os : Os) (started : os.Started) (H : Type) (enc : TypeId × Value → H) :
    ReturnsInHanded {} Try.checked os 5 .any (Rows.turnsSpec.pre6 enc Try.prog Try.f5 Rows.turnsRow.domain false) (Rows.turnsSpec.post enc Try.prog Try.f5 false true false false) := by
  refine returnsInHanded_of_change (C := Try.checked) own started (by kernel_rfl) Try.func5
    (ChangeSpec.witness6 (enc := enc) (C := Try.checked) false ⟨#[], #[.agg #[.int .i64 0, .int .i64 0, .int .i64 0, .bool false, .int .u32 0, .int .u32 0, .int .u32 0, .int .u32 0, .int .u32 0, .int .u32 0, .slice none 0 0, .string ⟨#[]⟩], .string ⟨#[]⟩], []⟩ 8 (by kernel_rfl) (by kernel_rfl) (by kernel_rfl) (by kernel_rfl)) ?_
  intro W base args ds gs before hval0 hW _ _
  have hval : ∀ (j : Nat) t v, Try.f5.params[j]? = some t → args[j]? = some v → Value.okWide Try.prog W .any base t v := hval0
  have hW' := hW
  obtain ⟨p, q, hA0, hV, rfl, _, _⟩ := hW
  have hA : DataW.TrodAll enc Try.prog W 0 (fun _ => true) true Try.f5.params.toList args.toList ds p := hA0
  rw [Try.params5] at hA hval
  obtain ⟨v0, v1, d0, d1, p0, p1, rfl, rfl, rfl, h0, h1⟩ := trodAll_two hA
  obtain ⟨rfl, rfl⟩ := trodVars_none hV
  have h0k := h0
  have h1k := h1
  obtain ⟨pk, L, rfl, hn, hL⟩ := open_pkt (hval 0 26 v0 rfl rfl) h0
  obtain ⟨s, rfl, rfl, rfl, _⟩ := Go.ChangeMaps.open_string Try.underlying9 (hval 1 9 v1 rfl rfl) h1
  clear hA0 hval0
  simp only [List.append_nil] at hW'
  have hlt : ∀ x ∈ p0, x.block < W.heap.size := fun x hx => by simpa using hW'.lt x hx
  refine (Turns_any pk hn L s W hL).mono fun e W' ⟨he, hb⟩ => ?_
  subst he
  refine ⟨_, rfl, _, _, _, [], p0, [], hW', trodAll_mk1 (shut_bool Try.underlying4 _), ?_, rfl, hb.frame _, fun h => by cases h⟩
  have ha : DataW.Trod enc Try.prog W' 0 (fun b => decide (b < W.heap.size)) true 26 pk.val d0 p0 := Below.trod laidOut (by kernel_rfl) (of_decide_eq_true (by kernel_rfl)) h0k hb hlt
  have hs : DataW.Trod enc Try.prog W' 0 (fun b => decide (b < W.heap.size)) true 9 (.string s) (.lit (.string s.data.toList)) [] := Below.trod laidOut (by kernel_rfl) (of_decide_eq_true (by kernel_rfl)) h1k hb (fun x hx => by cases hx)
  have hh := trodAll_mk2 ha hs
  rw [List.append_nil] at hh
  exact hh

theorem turns_holds : Rows.TurnsSaid :=
  OpenClaim.holds_of_wide 5 Try.f5 rfl rfl rfl rfl rfl rfl rfl ⟨rfl, rfl, rfl, rfl, rfl⟩ rfl rfl rfl rfl rfl (by kernel_rfl) Try.func5 (by kernel_rfl)
    (of_decide_eq_true (by kernel_rfl)) (by unfold Func.isWrapper; rw [if_neg (of_decide_eq_false (by kernel_rfl))]; exact ⟨rfl, rfl⟩)
    (fun os started H enc _ => turns_lifted os started H enc)
#print axioms turns_holds
end Go.Proofs.Ytmahaccaglaldaa
