import Derived.Test.YtakaadcpaeiccabGreatGA
namespace Go.Proofs.YtakaadcpaeiccabGreat
open Go.ChangeShapes Go.WideShapes Go.RowKit Go.Deep

theorem rc41 : Tryz.prog.cellsOf 82 = 3 := by kernel_rfl
theorem rc4 : Tryz.prog.cellsOf 4 = 1 := by kernel_rfl
theorem rc23 : Tryz.prog.cellsOf 34 = 1 := by kernel_rfl

set_option maxRecDepth 100000 in
/-- One record's cells, read. -/
theorem open_rec {H : Type} {enc : TypeId × Value → H} {W : World} (n : Nat) (cs : List Value) (y : DataW H × List MemPlace) (h : DataW.trod enc Tryz.prog W 0 (fun _ => true) true n 82 cs = some y) (hl : cs.length = 3) :
    ∃ x : Bool × Int × Int, cs = [.bool x.1, .int .u32 x.2.1, .int .u32 x.2.2] ∧ (0 ≤ x.2.1 ∧ x.2.1 < 4294967296) ∧ 0 ≤ x.2.2 ∧ x.2.2 < 4294967296 := by
  obtain ⟨u, v, z, rfl⟩ : ∃ u v z, cs = [u, v, z] := by
    match cs, hl with
    | [u, v, z], _ => exact ⟨u, v, z, rfl⟩
  obtain ⟨y0, y1, y2, k, _, _, g0, g1, g2⟩ := trod_struct3 Tryz.underlying82 h
  · rw [rc4] at g0
    rw [rc23] at g1 g2
    obtain ⟨o, e0, _⟩ := DataW.trod_bool Tryz.underlying4 g0
    obtain ⟨a, e1, _, w1⟩ := DataW.trod_int Tryz.underlying34 g1
    obtain ⟨s, e2, _, w2⟩ := DataW.trod_int Tryz.underlying34 g2
    simp at e0 e1 e2
    subst e0 e1 e2
    have q1 := bounds_u32 w1
    have q2 := bounds_u32 w2
    exact ⟨(o, a, s), rfl, ⟨q1.1, by dsimp only; omega⟩, q2.1, by dsimp only; omega⟩
theorem open_recs {H : Type} {enc : TypeId × Value → H} {W : World} {fuel : Nat} {c : Value} {x : DataW H × List MemPlace} (h : DataW.trod enc Tryz.prog W 0 (fun _ => true) true fuel 79 [c] = some x) :
    ∃ ao n cap L, c = .slice ao n cap ∧ L.length = n ∧ n ≤ maxLen ∧ HoldsC W ao (RC L) ∧ RBd L :=
  open_rows Tryz.underlying79 rc41 (by decide) (fun x : Bool × Int × Int => [.bool x.1, .int .u32 x.2.1, .int .u32 x.2.2]) _ (fun _ => rfl) open_rec h
end Go.Proofs.YtakaadcpaeiccabGreat
