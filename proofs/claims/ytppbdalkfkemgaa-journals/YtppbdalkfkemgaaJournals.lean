/- Proved: for every record, every string and every list of records, meshlaw.Journals returns true and leaves its arguments as they were (the statement Rows.JournalsSaid, with no condition of ours). -/
import Derived.Test.YtppbdalkfkemgaaRows
import Derived.Test.YtppbdalkfkemgaaV6
import Derived.ProofKit
import Derived.ChangeMaps5
namespace Go.Proofs.Ytppbdalkfkemgaa
open Go.ChangeShapes Go.WideShapes Go.ChangeAt Go.RowKit

theorem own : ownKnob Try.prog.godebug = none := by kernel_rfl
theorem laidOut : laidOutB Try.prog = true := by kernel_rfl

set_option maxRecDepth 100000 in
set_option maxHeartbeats 1000000 in
theorem Journals_text (o : Bool) (a q : Int) (s : ByteArray) (h : 65536 < s.size) (ao : Option Addr) (n c : Nat) (w : World) :
    Calls Try.prog 5 #[recV o a q, .string s, .slice ao n c] w fun e w' => e = .returned (.bool true) ∧ Below w.heap.size w w' := by
  have e1 : decide (65536 < (s.size : Int)) = true := decide_eq_true (by omega)
  have hb : Below w.heap.size w (w.alloc (recBox o a q)) := (Below.refl _ _).alloc (Nat.le_refl _) _
  dsimp only [recBox] at hb
  go_enter Try.func5, Try.ntmps5
  go_wp2
  go_ret
  exact ⟨rfl, hb⟩
set_option maxRecDepth 100000 in
set_option maxHeartbeats 1000000 in
theorem Journals_list (o : Bool) (a q : Int) (s : ByteArray) (h0 : ¬ 65536 < s.size) (ao : Option Addr) (n c : Nat) (h : 4096 < n) (w : World) :
    Calls Try.prog 5 #[recV o a q, .string s, .slice ao n c] w fun e w' => e = .returned (.bool true) ∧ Below w.heap.size w w' := by
  have e1 : decide (65536 < (s.size : Int)) = false := decide_eq_false (by omega)
  have e2 : decide (4096 < (n : Int)) = true := decide_eq_true (by omega)
  have hb : Below w.heap.size w (w.alloc (recBox o a q)) := (Below.refl _ _).alloc (Nat.le_refl _) _
  dsimp only [recBox] at hb
  go_enter Try.func5, Try.ntmps5
  go_wp2
  go_ret
  exact ⟨rfl, hb⟩

theorem Journals_any (o : Bool) (a q : Int) (a0 : 0 ≤ a) (a1 : a < 4294967296) (q0 : 0 ≤ q) (q1 : q < 4294967296) (s : ByteArray) (ao : Option Addr) (n c : Nat) (L : List (Bool × Int × Int)) (hL : L.length = n) (hbd : RBd L) (w : World) (hA : HoldsC w ao (RC L)) :
    Calls Try.prog 5 #[recV o a q, .string s, .slice ao n c] w fun e w' => e = .returned (.bool true) ∧ Below w.heap.size w w' := by
  by_cases h0 : 65536 < s.size
  · exact Journals_text o a q s h0 ao n c w
  by_cases h1 : 4096 < n
  · exact Journals_list o a q s h0 ao n c h1 w
  · exact Journals_short o a q a0 a1 q0 q1 s (by omega) ao n c L hL (by omega) hbd w hA

set_option maxRecDepth 100000 in
/-- A record that comes in. -/
theorem open_rec1 {H : Type} {enc : TypeId × Value → H} {W : World} {b0 : Nat} {v : Value} {d : DataW H} {ps : List MemPlace} (hv : Value.okWide Try.prog W .any b0 41 v) (h : DataW.Trod enc Try.prog W 0 (fun _ => true) true 41 v d ps) :
    ∃ o a s, v = recV o a s ∧ (0 ≤ a ∧ a < 4294967296) ∧ 0 ≤ s ∧ s < 4294967296 := by
  obtain ⟨cs, rfl, hsz⟩ := okWide_struct Try.underlying41 hv
  obtain ⟨fuel, hf⟩ := h
  have hl : cs.toList.length = 3 := by
    rw [Array.length_toList]
    exact hsz.trans rc41
  obtain ⟨x, hx, hb⟩ := open_rec _ cs.toList _ hf hl
  refine ⟨x.1, x.2.1, x.2.2, ?_, hb⟩
  rw [show cs = cs.toList.toArray from rfl, hx]

set_option maxRecDepth 100000 in
theorem journals_lifted (os : Os) (started : os.Started) (H : Type) (enc : TypeId × Value → H) :
    ReturnsInHanded {} Try.checked os 5 .any (Rows.journalsSpec.pre6 enc Try.prog Try.f5 Rows.journalsRow.domain false) (Rows.journalsSpec.post enc Try.prog Try.f5 false true false false) := by
  refine returnsInHanded_of_change (C := Try.checked) own started (by kernel_rfl) Try.func5
    (ChangeSpec.witness6 (enc := enc) (C := Try.checked) false ⟨#[], #[.agg #[.bool false, .int .u32 0, .int .u32 0], .string ⟨#[]⟩, .slice none 0 0], []⟩ 8 (by kernel_rfl) (by kernel_rfl) (by kernel_rfl) (by kernel_rfl)) ?_
  intro W base args ds gs before hval0 hW _ _
  have hval : ∀ (j : Nat) t v, Try.f5.params[j]? = some t → args[j]? = some v → Value.okWide Try.prog W .any base t v := hval0
  have hW' := hW
  obtain ⟨p, q, hA0, hV, rfl, _, _⟩ := hW
  have hA : DataW.TrodAll enc Try.prog W 0 (fun _ => true) true Try.f5.params.toList args.toList ds p := hA0
  rw [Try.params5] at hA hval
  obtain ⟨v0, v1, v2, d0, d1, d2, p0, p1, p2, rfl, rfl, rfl, h0, h1, h2⟩ := trodAll_three hA
  obtain ⟨rfl, rfl⟩ := trodVars_none hV
  have h0k := h0
  have h1k := h1
  have h2k := h2
  obtain ⟨o, a, r, rfl, ha, hr⟩ := open_rec1 (hval 0 41 v0 rfl rfl) h0
  obtain ⟨s, rfl, rfl, rfl, _⟩ := Go.ChangeMaps.open_string Try.underlying9 (hval 1 9 v1 rfl rfl) h1
  obtain ⟨a0, len, cap, rfl⟩ := okWide_slice Try.underlying42 (hval 2 42 v2 rfl rfl)
  obtain ⟨fuel, hf⟩ := h2
  obtain ⟨ao, n, c, L, he, hn, _, hL, hbd⟩ := open_recs hf
  cases he
  clear hA0 hval0
  have hlt : ∀ x ∈ p0 ++ ([] ++ p2), x.block < W.heap.size := fun x hx => by
    have := hW'.lt x
    simp only [List.append_nil, List.nil_append] at this hx ⊢
    simpa using this hx
  refine (Journals_any o a r ha.1 ha.2 hr.1 hr.2 s a0 len cap L hn hbd W hL).mono fun e W' ⟨he, hb⟩ => ?_
  subst he
  refine ⟨_, rfl, _, _, _, [], p0 ++ ([] ++ p2), [], hW', trodAll_mk1 (shut_bool Try.underlying4 _), ?_, rfl, hb.frame _, fun h => by cases h⟩
  have ha' : DataW.Trod enc Try.prog W' 0 (fun b => decide (b < W.heap.size)) true 41 (recV o a r) d0 p0 := Below.trod laidOut (by kernel_rfl) (of_decide_eq_true (by kernel_rfl)) h0k hb (fun x hx => hlt x (by simp [hx]))
  have hs' : DataW.Trod enc Try.prog W' 0 (fun b => decide (b < W.heap.size)) true 9 (.string s) _ [] := Below.trod laidOut (by kernel_rfl) (of_decide_eq_true (by kernel_rfl)) h1k hb (fun x hx => by cases hx)
  have ht' : DataW.Trod enc Try.prog W' 0 (fun b => decide (b < W.heap.size)) true 42 (.slice a0 len cap) d2 p2 := Below.trod laidOut (by kernel_rfl) (of_decide_eq_true (by kernel_rfl)) h2k hb (fun x hx => hlt x (by simp [hx]))
  exact trodAll_mk3 ha' hs' ht'

theorem journals_holds : Rows.JournalsSaid :=
  OpenClaim.holds_of_wide 5 Try.f5 rfl rfl rfl rfl rfl rfl rfl ⟨rfl, rfl, rfl, rfl, rfl⟩ rfl rfl rfl rfl rfl (by kernel_rfl) Try.func5 (by kernel_rfl)
    (of_decide_eq_true (by kernel_rfl)) (by unfold Func.isWrapper; rw [if_neg (of_decide_eq_false (by kernel_rfl))]; exact ⟨rfl, rfl⟩)
    (fun os started H enc _ => journals_lifted os started H enc)
#print axioms journals_holds
end Go.Proofs.Ytppbdalkfkemgaa
