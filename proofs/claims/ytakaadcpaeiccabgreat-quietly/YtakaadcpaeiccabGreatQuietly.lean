/- Proved: for every list of records, every list of strings and every wait, meshkeep.Quietly returns true and leaves its arguments as they were (the statement Rows.QuietlySaid, with no condition of ours). -/
import Derived.Test.YtakaadcpaeiccabGreatRows
import Derived.Test.YtakaadcpaeiccabGreatGZ
import Derived.Test.YtakaadcpaeiccabGreatG1
import Derived.ProofKit
import Derived.ChangeMaps5
import Derived.Lib.SmallJoins
namespace Go.Proofs.YtakaadcpaeiccabGreat
open Go.ChangeShapes Go.WideShapes Go.ChangeAt Go.RowKit

theorem own : ownKnob Tryz.prog.godebug = none := by kernel_rfl
theorem laidOut : laidOutB Tryz.prog = true := by kernel_rfl
theorem rcStr : Tryz.prog.cellsOf 9 = 1 := by kernel_rfl

theorem flat_str (F : List ByteArray) : (F.flatMap fun s => [Value.string s]) = F.map Value.string := by
  induction F with
  | nil => rfl
  | cons s F ih => simp [ih]
theorem open_strs {H : Type} {enc : TypeId × Value → H} {W : World} {fuel : Nat} {c : Value} {x : DataW H × List MemPlace} (h : DataW.trod enc Tryz.prog W 0 (fun _ => true) true fuel 80 [c] = some x) :
    ∃ (ao : Option Addr) (n cap : Nat) (F : List ByteArray), c = .slice ao n cap ∧ F.length = n ∧ HoldsC W ao (F.map Value.string) := by
  obtain ⟨ao, n, cap, F, h1, h2, _, h3, _⟩ := open_rows Tryz.underlying80 rcStr (by decide) (fun s : ByteArray => [Value.string s]) (fun _ => True) (fun _ => rfl) (fun _ _ _ h _ => by
    obtain ⟨s, hs, _⟩ := DataW.trod_string Tryz.underlying9 h
    exact ⟨s, hs, trivial⟩) h
  rw [flat_str] at h3
  exact ⟨ao, n, cap, F, h1, h2, h3⟩

set_option maxRecDepth 100000 in
set_option maxHeartbeats 1000000 in
theorem Quietly_long (ao : Option Addr) (n c : Nat) (h : 200 < n) (fo : Option Addr) (m fc : Nat) (wt : Int) (w : World) :
    Calls Tryz.prog 8 #[.slice ao n c, .slice fo m fc, .int .u64 wt] w fun e w' => e = .returned (.bool true) ∧ Below w.heap.size w w' := by
  have e1 : decide (200 < (n : Int)) = true := decide_eq_true (by omega)
  go_enter Tryz.func8, Tryz.ntmps8
  go_wp2
  go_ret
  exact ⟨rfl, Below.refl _ _⟩
set_option maxRecDepth 100000 in
set_option maxHeartbeats 1000000 in
theorem Quietly_many (ao : Option Addr) (n c : Nat) (h : ¬ 200 < n) (fo : Option Addr) (m fc : Nat) (h1 : 4096 < m) (wt : Int) (w : World) :
    Calls Tryz.prog 8 #[.slice ao n c, .slice fo m fc, .int .u64 wt] w fun e w' => e = .returned (.bool true) ∧ Below w.heap.size w w' := by
  have e1 : decide (200 < (n : Int)) = false := decide_eq_false (by omega)
  have e2 : decide (4096 < (m : Int)) = true := decide_eq_true (by omega)
  go_enter Tryz.func8, Tryz.ntmps8
  go_wp2
  go_ret
  exact ⟨rfl, Below.refl _ _⟩

theorem Quietly_any (ao : Option Addr) (n c : Nat) (L : List (Bool × Int × Int)) (hn : L.length = n) (hb : RBd L) (fo : Option Addr) (m fc : Nat) (F : List ByteArray) (hF : F.length = m) (wt : Int) (hwt : U64 wt) (w : World) (hL : HoldsC w ao (RC L)) (hFs : HoldsC w fo (F.map Value.string)) :
    Calls Tryz.prog 8 #[.slice ao n c, .slice fo m fc, .int .u64 wt] w fun e w' => e = .returned (.bool true) ∧ Below w.heap.size w w' := by
  by_cases h : 200 < n
  · exact Quietly_long ao n c h fo m fc wt w
  by_cases h1 : 4096 < m
  · exact Quietly_many ao n c h fo m fc h1 wt w
  · exact Quietly_short ao n c L hn (by omega) hb fo m fc F hF (by omega) wt hwt w hL hFs

set_option maxRecDepth 100000 in
theorem quietly_lifted (os : Os) (started : os.Started) (H : Type) (enc : TypeId × Value → H) :
    ReturnsInHanded {} Tryz.checked os 8 .any (Rows.quietlySpec.pre6 enc Tryz.prog Tryz.f8 Rows.quietlyRow.domain false) (Rows.quietlySpec.post enc Tryz.prog Tryz.f8 false true false false) := by
  refine returnsInHanded_of_change (C := Tryz.checked) own started (by kernel_rfl) Tryz.func8
    (ChangeSpec.witness6 (enc := enc) (C := Tryz.checked) false ⟨#[], #[.slice none 0 0, .slice none 0 0, .int .u64 0], []⟩ 8 (by kernel_rfl) (by kernel_rfl) (by kernel_rfl) (by kernel_rfl)) ?_
  intro W base args ds gs before hval0 hW _ _
  have hval : ∀ (j : Nat) t v, Tryz.f8.params[j]? = some t → args[j]? = some v → Value.okWide Tryz.prog W .any base t v := hval0
  have hW' := hW
  obtain ⟨p, q, hA0, hV, rfl, _, _⟩ := hW
  have hA : DataW.TrodAll enc Tryz.prog W 0 (fun _ => true) true Tryz.f8.params.toList args.toList ds p := hA0
  rw [Tryz.params8] at hA hval
  obtain ⟨v0, v1, v2, d0, d1, d2, p0, p1, p2, rfl, rfl, rfl, h0, h1, h2⟩ := trodAll_three hA
  obtain ⟨rfl, rfl⟩ := trodVars_none hV
  have h0k := h0
  have h1k := h1
  have h2k := h2
  obtain ⟨a0, l0, cap0, rfl⟩ := okWide_slice Tryz.underlying79 (hval 0 79 v0 rfl rfl)
  obtain ⟨fuel0, hf0⟩ := h0
  obtain ⟨ao, n, c, L, he0, hn, _, hL, hbd⟩ := open_recs hf0
  cases he0
  obtain ⟨a1, l1, cap1, rfl⟩ := okWide_slice Tryz.underlying80 (hval 1 80 v1 rfl rfl)
  obtain ⟨fuel1, hf1⟩ := h1
  obtain ⟨fo, m, fc, F, he1, hF, hFs⟩ := open_strs hf1
  cases he1
  obtain ⟨y, rfl, rfl, rfl, wy⟩ := open_int Tryz.underlying35 (hval 2 35 v2 rfl rfl) h2
  have bY := bounds_u64 wy
  clear hA0 hval0
  have hlt : ∀ x ∈ p0 ++ (p1 ++ []), x.block < W.heap.size := fun x hx => by
    have := hW'.lt x
    simp only [List.append_nil] at this hx ⊢
    simpa using this hx
  refine (Quietly_any a0 l0 cap0 L hn hbd a1 l1 cap1 F hF y ⟨bY.1, by omega⟩ W hL hFs).mono fun e W' ⟨he, hb⟩ => ?_
  subst he
  refine ⟨_, rfl, _, _, _, [], p0 ++ (p1 ++ []), [], hW', trodAll_mk1 (shut_bool Tryz.underlying4 _), ?_, rfl, hb.frame _, fun h => by cases h⟩
  have ha' : DataW.Trod enc Tryz.prog W' 0 (fun b => decide (b < W.heap.size)) true 79 (.slice a0 l0 cap0) d0 p0 := Below.trod laidOut (by kernel_rfl) (of_decide_eq_true (by kernel_rfl)) h0k hb (fun x hx => hlt x (by simp [hx]))
  have hs' : DataW.Trod enc Tryz.prog W' 0 (fun b => decide (b < W.heap.size)) true 80 (.slice a1 l1 cap1) d1 p1 := Below.trod laidOut (by kernel_rfl) (of_decide_eq_true (by kernel_rfl)) h1k hb (fun x hx => hlt x (by simp [hx]))
  have ht' : DataW.Trod enc Tryz.prog W' 0 (fun b => decide (b < W.heap.size)) true 35 (.int .u64 y) _ [] := Below.trod laidOut (by kernel_rfl) (of_decide_eq_true (by kernel_rfl)) h2k hb (fun x hx => by cases hx)
  exact trodAll_mk3 ha' hs' ht'

theorem quietly_holds : Rows.QuietlySaid :=
  OpenClaim.holds_of_wide 8 Tryz.f8 rfl rfl rfl rfl rfl rfl rfl ⟨rfl, rfl, rfl, rfl, rfl⟩ rfl rfl rfl rfl rfl (by kernel_rfl) Tryz.func8 (by kernel_rfl)
    (of_decide_eq_true (by kernel_rfl)) (by unfold Func.isWrapper; rw [if_neg (of_decide_eq_false (by kernel_rfl))]; exact ⟨rfl, rfl⟩)
    (fun os started H enc _ => quietly_lifted os started H enc)
#print axioms quietly_holds
end Go.Proofs.YtakaadcpaeiccabGreat
