/- Proved: for every list of asks, meshkeep.Rated returns true and leaves its argument as it was (the statement Rows.RatedSaid, with no condition of ours). -/
import Derived.Test.YtakaadcpaeiccabGreatRows
import Derived.Test.YtakaadcpaeiccabGreatC41
import Derived.Test.YtakaadcpaeiccabGreatC42
import Derived.ProofKit
import Derived.ChangeMaps5
import Derived.Lib.SmallJoins
import Derived.Deep.Strs
namespace Go.Proofs.YtakaadcpaeiccabGreat
open Go.ChangeShapes Go.WideShapes Go.ChangeAt Go.RowKit Go.Deep

theorem own : ownKnob Tryz.prog.godebug = none := by kernel_rfl
theorem laidOut : laidOutB Tryz.prog = true := by kernel_rfl
theorem rcAk : Tryz.prog.cellsOf 65 = 3 := by kernel_rfl
theorem rcU64 : Tryz.prog.cellsOf 35 = 1 := by kernel_rfl

set_option maxRecDepth 100000 in
/-- One ask's cells, read. -/
theorem open_ak {H : Type} {enc : TypeId × Value → H} {W : World} (n : Nat) (cs : List Value) (y : DataW H × List MemPlace) (h : DataW.trod enc Tryz.prog W 0 (fun _ => true) true n 65 cs = some y) (hl : cs.length = 3) :
    ∃ x : Int × Int × Bool, cs = [.int .u32 x.1, .int .u64 x.2.1, .bool x.2.2] ∧ U32 x.1 ∧ U64 x.2.1 := by
  obtain ⟨u, v, z, rfl⟩ : ∃ u v z, cs = [u, v, z] := by
    match cs, hl with
    | [u, v, z], _ => exact ⟨u, v, z, rfl⟩
  obtain ⟨y0, y1, y2, k, _, _, g0, g1, g2⟩ := trod_struct3 Tryz.underlying65 h
  rw [rc23] at g0
  rw [rcU64] at g1
  rw [rc4] at g2
  obtain ⟨a, e0, _, w0⟩ := DataW.trod_int Tryz.underlying34 g0
  obtain ⟨b, e1, _, w1⟩ := DataW.trod_int Tryz.underlying35 g1
  obtain ⟨o, e2, _⟩ := DataW.trod_bool Tryz.underlying4 g2
  simp at e0 e1 e2
  subst e0 e1 e2
  have q0 := bounds_u32 w0
  have q1 := bounds_u64 w1
  exact ⟨(a, b, o), rfl, ⟨q0.1, by dsimp only; omega⟩, q1.1, by dsimp only; omega⟩
theorem open_aks {H : Type} {enc : TypeId × Value → H} {W : World} {fuel : Nat} {c : Value} {x : DataW H × List MemPlace} (h : DataW.trod enc Tryz.prog W 0 (fun _ => true) true fuel 60 [c] = some x) :
    ∃ ao n cap L, c = .slice ao n cap ∧ L.length = n ∧ n ≤ maxLen ∧ HoldsC W ao (AkC L) ∧ ∀ x ∈ L, U32 x.1 ∧ U64 x.2.1 :=
  open_rows Tryz.underlying60 rcAk (by decide) (fun x : Int × Int × Bool => [.int .u32 x.1, .int .u64 x.2.1, .bool x.2.2]) _ (fun _ => rfl) open_ak h

set_option maxRecDepth 100000 in
theorem rated_lifted (os : Os) (started : os.Started) (H : Type) (enc : TypeId × Value → H) :
    ReturnsInHanded {} Tryz.checked os 7 .any (Rows.ratedSpec.pre6 enc Tryz.prog Tryz.f7 Rows.ratedRow.domain false) (Rows.ratedSpec.post enc Tryz.prog Tryz.f7 false true false false) := by
  refine returnsInHanded_of_change (C := Tryz.checked) own started (by kernel_rfl) Tryz.func7
    (ChangeSpec.witness6 (enc := enc) (C := Tryz.checked) false ⟨#[], #[.slice none 0 0], []⟩ 8 (by kernel_rfl) (by kernel_rfl) (by kernel_rfl) (by kernel_rfl)) ?_
  intro W base args ds gs before hval0 hW _ _
  have hval : ∀ (j : Nat) t v, Tryz.f7.params[j]? = some t → args[j]? = some v → Value.okWide Tryz.prog W .any base t v := hval0
  have hW' := hW
  obtain ⟨p, q, hA0, hV, rfl, _, _⟩ := hW
  have hA : DataW.TrodAll enc Tryz.prog W 0 (fun _ => true) true Tryz.f7.params.toList args.toList ds p := hA0
  rw [Tryz.params7] at hA hval
  obtain ⟨v0, d0, rfl, rfl, h0⟩ := trodAll_one hA
  obtain ⟨rfl, rfl⟩ := trodVars_none hV
  have h0k := h0
  obtain ⟨a0, l0, cap0, rfl⟩ := okWide_slice Tryz.underlying60 (hval 0 60 v0 rfl rfl)
  obtain ⟨fuel0, hf0⟩ := h0
  obtain ⟨ao, n, c, L, he0, hn, _, hL, hbd⟩ := open_aks hf0
  cases he0
  clear hA0 hval0
  simp only [List.append_nil] at hW'
  have hlt : ∀ x ∈ p, x.block < W.heap.size := fun x hx => by simpa using hW'.lt x hx
  refine (Rated_any a0 l0 cap0 L hn hbd W hL).mono fun e W' ⟨he, hb⟩ => ?_
  subst he
  refine ⟨_, rfl, _, _, _, [], p, [], hW', trodAll_mk1 (shut_bool Tryz.underlying4 _), ?_, rfl, hb.frame _, fun h => by cases h⟩
  have ha : DataW.Trod enc Tryz.prog W' 0 (fun b => decide (b < W.heap.size)) true 60 (.slice a0 l0 cap0) d0 p := Below.trod laidOut (by kernel_rfl) (of_decide_eq_true (by kernel_rfl)) h0k hb hlt
  exact trodAll_mk1 ha

theorem rated_holds : Rows.RatedSaid :=
  OpenClaim.holds_of_wide 7 Tryz.f7 rfl rfl rfl rfl rfl rfl rfl ⟨rfl, rfl, rfl, rfl, rfl⟩ rfl rfl rfl rfl rfl (by kernel_rfl) Tryz.func7 (by kernel_rfl)
    (of_decide_eq_true (by kernel_rfl)) (by unfold Func.isWrapper; rw [if_neg (of_decide_eq_false (by kernel_rfl))]; exact ⟨rfl, rfl⟩)
    (fun os started H enc _ => rated_lifted os started H enc)
#print axioms rated_holds
end Go.Proofs.YtakaadcpaeiccabGreat
