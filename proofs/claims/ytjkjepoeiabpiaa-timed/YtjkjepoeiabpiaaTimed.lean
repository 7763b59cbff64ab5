/- Proved: for every script of steps, meshlaw.Timed returns true and leaves its argument as it was (the statement Rows.TimedSaid, with no condition of ours). -/
import Derived.Test.YtjkjepoeiabpiaaRows
import Derived.Test.YtjkjepoeiabpiaaM7
import Derived.ProofKit
import Derived.ChangeMaps5
import Derived.Lib.SmallJoins
namespace Go.Proofs.Ytjkjepoeiabpiaa
open Go.ChangeShapes Go.WideShapes Go.ChangeAt Go.RowKit

theorem own : ownKnob Try.prog.godebug = none := by kernel_rfl
theorem laidOut : laidOutB Try.prog = true := by kernel_rfl
theorem rcs62 : Try.prog.cellsOf 62 = 4 := by kernel_rfl
theorem rcs3 : Try.prog.cellsOf 3 = 1 := by kernel_rfl
theorem rcs60 : Try.prog.cellsOf 60 = 1 := by kernel_rfl
theorem rcs4 : Try.prog.cellsOf 4 = 1 := by kernel_rfl

set_option maxRecDepth 100000 in
/-- One step's cells, read. -/
theorem open_step {H : Type} {enc : TypeId × Value → H} {W : World} (n : Nat) (cs : List Value) (y : DataW H × List MemPlace) (h : DataW.trod enc Try.prog W 0 (fun _ => true) true n 62 cs = some y) (hl : cs.length = 4) :
    ∃ x : Sp, cs = spC x ∧ SpOk x := by
  obtain ⟨u, v, z, t, rfl⟩ : ∃ u v z t, cs = [u, v, z, t] := by
    match cs, hl with
    | [u, v, z, t], _ => exact ⟨u, v, z, t, rfl⟩
  obtain ⟨y0, y1, y2, y3, k, _, _, g0, g1, g2, g3⟩ := Go.Joins.trod_struct4 Try.underlying62 h
  rw [rcs3] at g0 g1
  rw [rcs60] at g2
  rw [rcs4] at g3
  obtain ⟨a, e0, _, w0⟩ := DataW.trod_int Try.underlying3 g0
  obtain ⟨b, e1, _, w1⟩ := DataW.trod_int Try.underlying3 g1
  obtain ⟨c, e2, _, w2⟩ := DataW.trod_int Try.underlying60 g2
  obtain ⟨d, e3, _⟩ := DataW.trod_bool Try.underlying4 g3
  simp at e0 e1 e2 e3
  subst e0 e1 e2 e3
  have q2 := bounds_u64 w2
  exact ⟨(a, b, c, d), rfl, bounds_i64 w0, bounds_i64 w1, q2.1, by dsimp only; omega⟩
theorem open_steps {H : Type} {enc : TypeId × Value → H} {W : World} {fuel : Nat} {c : Value} {x : DataW H × List MemPlace} (h : DataW.trod enc Try.prog W 0 (fun _ => true) true fuel 51 [c] = some x) :
    ∃ ao n cap L, c = .slice ao n cap ∧ L.length = n ∧ n ≤ maxLen ∧ HoldsC W ao (SL L) ∧ ∀ x ∈ L, SpOk x :=
  open_rows Try.underlying51 rcs62 (by decide) spC SpOk (fun _ => rfl) open_step h

set_option maxRecDepth 100000 in
set_option maxHeartbeats 1000000 in
theorem Timed_long (ao : Option Addr) (n c : Nat) (h : 4096 < n) (w : World) :
    Calls Try.prog 6 #[.slice ao n c] w fun e w' => e = .returned (.bool true) ∧ Below w.heap.size w w' := by
  have e1 : decide (4096 < (n : Int)) = true := decide_eq_true (by omega)
  go_enter Try.func6, Try.ntmps6
  go_wp2
  go_ret
  exact ⟨rfl, Below.refl _ _⟩

theorem Timed_any (ao : Option Addr) (n c : Nat) (L : List Sp) (hn : L.length = n) (hok : ∀ x ∈ L, SpOk x) (w : World) (hL : HoldsC w ao (SL L)) :
    Calls Try.prog 6 #[.slice ao n c] w fun e w' => e = .returned (.bool true) ∧ Below w.heap.size w w' := by
  by_cases h : 4096 < n
  · exact Timed_long ao n c h w
  · exact Timed_short ao n c L hn (by omega) hok w hL

set_option maxRecDepth 100000 in
theorem timed_lifted (os : Os) (started : os.Started) (H : Type) (enc : TypeId × Value → H) :
    ReturnsInHanded {} Try.checked os 6 .any (Rows.timedSpec.pre6 enc Try.prog Try.f6 Rows.timedRow.domain false) (Rows.timedSpec.post enc Try.prog Try.f6 false true false false) := by
  refine returnsInHanded_of_change (C := Try.checked) own started (by kernel_rfl) Try.func6
    (ChangeSpec.witness6 (enc := enc) (C := Try.checked) false ⟨#[], #[.slice none 0 0], []⟩ 8 (by kernel_rfl) (by kernel_rfl) (by kernel_rfl) (by kernel_rfl)) ?_
  intro W base args ds gs before hval0 hW _ _
  have hval : ∀ (j : Nat) t v, Try.f6.params[j]? = some t → args[j]? = some v → Value.okWide Try.prog W .any base t v := hval0
  have hW' := hW
  obtain ⟨p, q, hA0, hV, rfl, _, _⟩ := hW
  have hA : DataW.TrodAll enc Try.prog W 0 (fun _ => true) true Try.f6.params.toList args.toList ds p := hA0
  rw [Try.params6] at hA hval
  obtain ⟨v0, d0, rfl, rfl, h0⟩ := trodAll_one hA
  obtain ⟨rfl, rfl⟩ := trodVars_none hV
  have h0k := h0
  obtain ⟨a0, len, cap, rfl⟩ := okWide_slice Try.underlying51 (hval 0 51 v0 rfl rfl)
  obtain ⟨fuel, hf⟩ := h0
  obtain ⟨ao, n, c, L, he, hn, _, hL, hbd⟩ := open_steps hf
  cases he
  clear hA0 hval0
  simp only [List.append_nil] at hW'
  have hlt : ∀ x ∈ p, x.block < W.heap.size := fun x hx => by simpa using hW'.lt x hx
  refine (Timed_any a0 len cap L hn hbd W hL).mono fun e W' ⟨he, hb⟩ => ?_
  subst he
  refine ⟨_, rfl, _, _, _, [], p, [], hW', trodAll_mk1 (shut_bool Try.underlying4 _), ?_, rfl, hb.frame _, fun h => by cases h⟩
  have ha : DataW.Trod enc Try.prog W' 0 (fun b => decide (b < W.heap.size)) true 51 (.slice a0 len cap) d0 p := Below.trod laidOut (by kernel_rfl) (of_decide_eq_true (by kernel_rfl)) h0k hb hlt
  exact trodAll_mk1 ha

theorem timed_holds : Rows.TimedSaid :=
  OpenClaim.holds_of_wide 6 Try.f6 rfl rfl rfl rfl rfl rfl rfl ⟨rfl, rfl, rfl, rfl, rfl⟩ rfl rfl rfl rfl rfl (by kernel_rfl) Try.func6 (by kernel_rfl)
    (of_decide_eq_true (by kernel_rfl)) (by unfold Func.isWrapper; rw [if_neg (of_decide_eq_false (by kernel_rfl))]; exact ⟨rfl, rfl⟩)
    (fun os started H enc _ => timed_lifted os started H enc)
#print axioms timed_holds
end Go.Proofs.Ytjkjepoeiabpiaa
