/- Proved: for every address, every list of records and every list of steps, meshlaw.Routed returns true and leaves its arguments as they were (the statement Rows.RoutedSaid, with no condition of ours). -/
import Derived.Test.YtpdjhcfkhblioaaRows
import Derived.Test.YtpdjhcfkhblioaaY2
import Derived.Test.YtpdjhcfkhblioaaG1
import Derived.ProofKit
import Derived.ChangeMaps5
import Derived.Lib.SmallJoins
namespace Go.Proofs.Ytpdjhcfkhblioaa
open Go.ChangeShapes Go.WideShapes Go.ChangeAt Go.RowKit

theorem own : ownKnob Try.prog.godebug = none := by kernel_rfl
theorem laidOut : laidOutB Try.prog = true := by kernel_rfl
theorem rcStep : Try.prog.cellsOf 75 = 6 := by kernel_rfl
theorem rcInt : Try.prog.cellsOf 3 = 1 := by kernel_rfl
theorem rcU64 : Try.prog.cellsOf 60 = 1 := by kernel_rfl

set_option maxRecDepth 100000 in
/-- One step's cells, read. -/
theorem open_stp {H : Type} {enc : TypeId × Value → H} {W : World} (n : Nat) (cs : List Value) (y : DataW H × List MemPlace) (h : DataW.trod enc Try.prog W 0 (fun _ => true) true n 75 cs = some y) (hl : cs.length = 6) :
    ∃ x : Stp, cs = stC x ∧ StOk x := by
  obtain ⟨c0, c1, c2, c3, c4, c5, rfl⟩ : ∃ c0 c1 c2 c3 c4 c5, cs = [c0, c1, c2, c3, c4, c5] := by
    match cs, hl with
    | [c0, c1, c2, c3, c4, c5], _ => exact ⟨c0, c1, c2, c3, c4, c5, rfl⟩
  obtain ⟨xs, n, _, _, _, hlen, hget⟩ := DataW.trod_struct Try.underlying75 h
  match xs, hlen with
  | [x0, x1, x2, x3, x4, x5], _ =>
    have g0 : DataW.trod enc Try.prog W 0 (fun _ => true) true n 3 (([c0, c1, c2, c3, c4, c5].drop 0).take (Try.prog.cellsOf 3)) = some x0 := hget 0 _ rfl
    rw [rcInt] at g0
    have g1 : DataW.trod enc Try.prog W 0 (fun _ => true) true n 23 (([c0, c1, c2, c3, c4, c5].drop 1).take (Try.prog.cellsOf 23)) = some x1 := hget 1 _ rfl
    rw [rc23] at g1
    have g2 : DataW.trod enc Try.prog W 0 (fun _ => true) true n 23 (([c0, c1, c2, c3, c4, c5].drop 2).take (Try.prog.cellsOf 23)) = some x2 := hget 2 _ rfl
    rw [rc23] at g2
    have g3 : DataW.trod enc Try.prog W 0 (fun _ => true) true n 3 (([c0, c1, c2, c3, c4, c5].drop 3).take (Try.prog.cellsOf 3)) = some x3 := hget 3 _ rfl
    rw [rcInt] at g3
    have g4 : DataW.trod enc Try.prog W 0 (fun _ => true) true n 23 (([c0, c1, c2, c3, c4, c5].drop 4).take (Try.prog.cellsOf 23)) = some x4 := hget 4 _ rfl
    rw [rc23] at g4
    have g5 : DataW.trod enc Try.prog W 0 (fun _ => true) true n 60 (([c0, c1, c2, c3, c4, c5].drop 5).take (Try.prog.cellsOf 60)) = some x5 := hget 5 _ rfl
    rw [rcU64] at g5
    clear hget
    obtain ⟨a0, e0, _, w0⟩ := DataW.trod_int Try.underlying3 g0
    obtain ⟨a1, e1, _, w1⟩ := DataW.trod_int Try.underlying23 g1
    obtain ⟨a2, e2, _, w2⟩ := DataW.trod_int Try.underlying23 g2
    obtain ⟨a3, e3, _, w3⟩ := DataW.trod_int Try.underlying3 g3
    obtain ⟨a4, e4, _, w4⟩ := DataW.trod_int Try.underlying23 g4
    obtain ⟨a5, e5, _, w5⟩ := DataW.trod_int Try.underlying60 g5
    simp at e0 e1 e2 e3 e4 e5
    subst e0 e1 e2 e3 e4 e5
    have q1 := bounds_u32 w1
    have q2 := bounds_u32 w2
    have q4 := bounds_u32 w4
    have q5 := bounds_u64 w5
    exact ⟨(a0, a1, a2, a3, a4, a5), rfl, bounds_i64 w0, ⟨q1.1, by dsimp only; omega⟩, ⟨q2.1, by dsimp only; omega⟩, bounds_i64 w3, ⟨q4.1, by dsimp only; omega⟩, q5.1, by dsimp only; omega⟩
theorem open_stps {H : Type} {enc : TypeId × Value → H} {W : World} {fuel : Nat} {c : Value} {x : DataW H × List MemPlace} (h : DataW.trod enc Try.prog W 0 (fun _ => true) true fuel 69 [c] = some x) :
    ∃ ao n cap L, c = .slice ao n cap ∧ L.length = n ∧ n ≤ maxLen ∧ HoldsC W ao (StL L) ∧ ∀ x ∈ L, StOk x :=
  open_rows Try.underlying69 rcStep (by decide) stC StOk (fun _ => rfl) open_stp h

set_option maxRecDepth 100000 in
set_option maxHeartbeats 1000000 in
theorem Routed_list (me : Int) (ao : Option Addr) (n c : Nat) (h : 4096 < n) (so : Option Addr) (m cc : Nat) (w : World) :
    Calls Try.prog 7 #[.int .u32 me, .slice ao n c, .slice so m cc] w fun e w' => e = .returned (.bool true) ∧ Below w.heap.size w w' := by
  have e1 : decide (4096 < (n : Int)) = true := decide_eq_true (by omega)
  go_enter Try.func7, Try.ntmps7
  go_wp2
  go_ret
  exact ⟨rfl, Below.refl _ _⟩
set_option maxRecDepth 100000 in
set_option maxHeartbeats 1000000 in
theorem Routed_script (me : Int) (ao : Option Addr) (n c : Nat) (h0 : ¬ 4096 < n) (so : Option Addr) (m cc : Nat) (h : 4096 < m) (w : World) :
    Calls Try.prog 7 #[.int .u32 me, .slice ao n c, .slice so m cc] w fun e w' => e = .returned (.bool true) ∧ Below w.heap.size w w' := by
  have e1 : decide (4096 < (n : Int)) = false := decide_eq_false (by omega)
  have e2 : decide (4096 < (m : Int)) = true := decide_eq_true (by omega)
  go_enter Try.func7, Try.ntmps7
  go_wp2
  go_ret
  exact ⟨rfl, Below.refl _ _⟩

theorem Routed_any (me : Int) (hme : U32 me) (ao : Option Addr) (n c : Nat) (L : List (Bool × Int × Int)) (hL : L.length = n) (hbd : RBd L) (so : Option Addr) (m cc : Nat) (K : List Stp) (hK : K.length = m) (hok : ∀ x ∈ K, StOk x) (w : World) (hA : HoldsC w ao (RC L)) (hC : HoldsC w so (StL K)) :
    Calls Try.prog 7 #[.int .u32 me, .slice ao n c, .slice so m cc] w fun e w' => e = .returned (.bool true) ∧ Below w.heap.size w w' := by
  by_cases h0 : 4096 < n
  · exact Routed_list me ao n c h0 so m cc w
  by_cases h1 : 4096 < m
  · exact Routed_script me ao n c h0 so m cc h1 w
  · exact Routed_short me hme ao n c L hL (by omega) hbd so m cc K hK (by omega) hok w hA hC

set_option maxRecDepth 100000 in
theorem routed_lifted (os : Os) (started : os.Started) (H : Type) (enc : TypeId × Value → H) :
    ReturnsInHanded {} Try.checked os 7 .any (Rows.routedSpec.pre6 enc Try.prog Try.f7 Rows.routedRow.domain false) (Rows.routedSpec.post enc Try.prog Try.f7 false true false false) := by
  refine returnsInHanded_of_change (C := Try.checked) own started (by kernel_rfl) Try.func7
    (ChangeSpec.witness6 (enc := enc) (C := Try.checked) false ⟨#[], #[.int .u32 0, .slice none 0 0, .slice none 0 0], []⟩ 8 (by kernel_rfl) (by kernel_rfl) (by kernel_rfl) (by kernel_rfl)) ?_
  intro W base args ds gs before hval0 hW _ _
  have hval : ∀ (j : Nat) t v, Try.f7.params[j]? = some t → args[j]? = some v → Value.okWide Try.prog W .any base t v := hval0
  have hW' := hW
  obtain ⟨p, q, hA0, hV, rfl, _, _⟩ := hW
  have hA : DataW.TrodAll enc Try.prog W 0 (fun _ => true) true Try.f7.params.toList args.toList ds p := hA0
  rw [Try.params7] at hA hval
  obtain ⟨v0, v1, v2, d0, d1, d2, p0, p1, p2, rfl, rfl, rfl, h0, h1, h2⟩ := trodAll_three hA
  obtain ⟨rfl, rfl⟩ := trodVars_none hV
  have h0k := h0
  have h1k := h1
  have h2k := h2
  obtain ⟨me, rfl, rfl, rfl, w0⟩ := open_int Try.underlying23 (hval 0 23 v0 rfl rfl) h0
  have q0 := bounds_u32 w0
  obtain ⟨a1, l1, cap1, rfl⟩ := okWide_slice Try.underlying42 (hval 1 42 v1 rfl rfl)
  obtain ⟨fuel1, hf1⟩ := h1
  obtain ⟨ao, n, c, L, he1, hn, _, hL, hbd⟩ := open_recs hf1
  cases he1
  obtain ⟨a2, l2, cap2, rfl⟩ := okWide_slice Try.underlying69 (hval 2 69 v2 rfl rfl)
  obtain ⟨fuel2, hf2⟩ := h2
  obtain ⟨so, m, cc, K, he2, hm, _, hK, hok⟩ := open_stps hf2
  cases he2
  clear hA0 hval0
  have hlt : ∀ x ∈ [] ++ (p1 ++ p2), x.block < W.heap.size := fun x hx => by
    have := hW'.lt x
    simp only [List.append_nil, List.nil_append] at this hx ⊢
    simpa using this hx
  refine (Routed_any me ⟨q0.1, by omega⟩ a1 l1 cap1 L hn hbd a2 l2 cap2 K hm hok W hL hK).mono fun e W' ⟨he, hb⟩ => ?_
  subst he
  refine ⟨_, rfl, _, _, _, [], [] ++ (p1 ++ p2), [], hW', trodAll_mk1 (shut_bool Try.underlying4 _), ?_, rfl, hb.frame _, fun h => by cases h⟩
  have ha' : DataW.Trod enc Try.prog W' 0 (fun b => decide (b < W.heap.size)) true 23 (.int .u32 me) _ [] := Below.trod laidOut (by kernel_rfl) (of_decide_eq_true (by kernel_rfl)) h0k hb (fun x hx => by cases hx)
  have hs' : DataW.Trod enc Try.prog W' 0 (fun b => decide (b < W.heap.size)) true 42 (.slice a1 l1 cap1) d1 p1 := Below.trod laidOut (by kernel_rfl) (of_decide_eq_true (by kernel_rfl)) h1k hb (fun x hx => hlt x (by simp [hx]))
  have ht' : DataW.Trod enc Try.prog W' 0 (fun b => decide (b < W.heap.size)) true 69 (.slice a2 l2 cap2) d2 p2 := Below.trod laidOut (by kernel_rfl) (of_decide_eq_true (by kernel_rfl)) h2k hb (fun x hx => hlt x (by simp [hx]))
  exact trodAll_mk3 ha' hs' ht'

theorem routed_holds : Rows.RoutedSaid :=
  OpenClaim.holds_of_wide 7 Try.f7 rfl rfl rfl rfl rfl rfl rfl ⟨rfl, rfl, rfl, rfl, rfl⟩ rfl rfl rfl rfl rfl (by kernel_rfl) Try.func7 (by kernel_rfl)
    (of_decide_eq_true (by kernel_rfl)) (by unfold Func.isWrapper; rw [if_neg (of_decide_eq_false (by kernel_rfl))]; exact ⟨rfl, rfl⟩)
    (fun os started H enc _ => routed_lifted os started H enc)
#print axioms routed_holds
end Go.Proofs.Ytpdjhcfkhblioaa
