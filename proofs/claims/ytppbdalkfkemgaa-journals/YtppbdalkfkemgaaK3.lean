import Derived.Test.YtppbdalkfkemgaaK2
import Derived.Deep.RegionHeld3
namespace Go.Proofs.Ytppbdalkfkemgaa
open Go.RowKit

theorem str_app (a b : List Int) : strOfNums a ++ strOfNums b = strOfNums (a ++ b) := by
  apply ByteArray.ext
  simp [strOfNums, ByteArray.data_append]
/-- What the plain Write holds on to. -/
@[reducible] def RwS (o : Bool) (a s : Int) (w W : World) : Prop :=
  W.cell? ⟨w.heap.size, 0, none⟩ = some (.bool o) ∧ W.cell? ⟨w.heap.size, 1, none⟩ = some (.int .u32 a) ∧ W.cell? ⟨w.heap.size, 2, none⟩ = some (.int .u32 s) ∧ w.heap.size < W.heap.size ∧ Below w.heap.size w W
theorem RwS.start (o : Bool) (a s : Int) (w : World) : RwS o a s w (w.alloc (recBox o a s)) := by
  have h := heap_alloc_new w (recBox o a s)
  exact ⟨cell_of_row _ _ 0 _ _ _ h, cell_of_row _ _ 1 _ _ _ h, cell_of_row _ _ 2 _ _ _ h, by simp, (Below.refl _ _).alloc (Nat.le_refl _) _⟩
theorem RwS.drew {o : Bool} {a s : Int} {w W : World} (h : RwS o a s w W) : RwS o a s w W.drew := ⟨h.1, h.2.1, h.2.2.1, h.2.2.2.1, h.2.2.2.2.trans ⟨rfl, rfl, rfl, Nat.le_refl _, fun _ _ => rfl⟩⟩
theorem RwS.below {o : Bool} {a s : Int} {w W W1 : World} (h : RwS o a s w W) (hb : Below W.heap.size W W1) : RwS o a s w W1 :=
  ⟨(hb.cell (p := ⟨w.heap.size, 0, none⟩) h.2.2.2.1).trans h.1, (hb.cell (p := ⟨w.heap.size, 1, none⟩) h.2.2.2.1).trans h.2.1, (hb.cell (p := ⟨w.heap.size, 2, none⟩) h.2.2.2.1).trans h.2.2.1, Nat.lt_of_lt_of_le h.2.2.2.1 hb.size, h.2.2.2.2.trans (hb.mono (Nat.le_of_lt h.2.2.2.1))⟩

set_option maxRecDepth 100000 in
set_option maxHeartbeats 4000000 in
theorem rWrite_any (o : Bool) (a s : Int) (a0 : 0 ≤ a) (a1 : a < 4294967296) (s0 : 0 ≤ s) (s1 : s < 4294967296) (w : World) :
    Calls Try.prog 18 #[recV o a s] w fun e w' => e = .returned (.string (strOfNums (recB o a s))) ∧ Below w.heap.size w w' := by
  have hS := RwS.start o a s w
  dsimp only [recBox] at hS
  have hsz := strOfNums_size
  go_enter Try.func18, Try.ntmps18
  go_wp2_with fail
  generalize World.alloc _ _ = W0 at hS ⊢
  go_region_held3 (RwS o a s w) (first | exact RwS.drew (by assumption) | assumption | exact RwS.below (by assumption) (by assumption)) (first
    | (go_at_call_of 61 (Value.int IntKind.u32 a); refine (four_any _ _ (by omega) (by omega)).mono ?_; rintro e w3 ⟨rfl, hb3⟩)
    | (go_at_call_of 61 (Value.int IntKind.u32 s); refine (four_any _ _ (by omega) (by omega)).mono ?_; rintro e w4 ⟨rfl, hb4⟩))
  all_goals
    rename_i hS4
    clear hS
    obtain ⟨q0, q1, q2, q3, q4⟩ := (show RwS o a s w w4 from hS4)
    have e2 : (ByteArray.mk #[2] ++ strOfNums [a / 16777216, a / 65536 % 256, a / 256 % 256, a % 256] ++ strOfNums [s / 16777216, s / 65536 % 256, s / 256 % 256, s % 256]) = strOfNums (recH false a s) := by
      rw [show (ByteArray.mk #[2]) = strOfNums [2] from rfl, str_app, str_app]
      rfl
    rw [e2]
    clear e2
    cases o
    · have hb := recH_b (o := false) a0 a1 s0 s1
      have hcb := crc_b hb
      have hl := recH_length false a s
      have hr := rSum_any (recH false a s) hb (by omega)
      clear hb
      clear hS4
      go_wp2_with fail
      refine (hr _).mono ?_
      rintro e w5 ⟨rfl, rfl⟩
      go_wp2_with fail
      refine (four_any _ _ hcb.1 hcb.2).mono ?_
      rintro e w6 ⟨rfl, hb6⟩
      have hB := q4.trans (hb6.mono (Nat.le_of_lt q3))
      clear hr
      go_wp2
      go_ret
      refine ⟨?_, hB⟩
      show Ending.returned (.string (strOfNums (recH false a s) ++ strOfNums (b4 (crc (recH false a s))))) = _
      rw [str_app]
      rfl
    · go_wp2_with fail
      clear q0 q1 q2 q3 q4
      go_region_held3 (RwS true a s w) (first | exact RwS.drew (by assumption) | assumption | exact RwS.below (by assumption) (by assumption)) (first
        | (go_at_call_of 61 (Value.int IntKind.u32 0); refine (four_any 0 _ (by omega) (by omega)).mono ?_; rintro e w7 ⟨rfl, hb7⟩)
        | (go_at_call_of 61 (Value.int IntKind.u32 s); refine (four_any s _ (by omega) (by omega)).mono ?_; rintro e w8 ⟨rfl, hb8⟩))
      all_goals
        rename_i hS8
        obtain ⟨q0, q1, q2, q3, q4⟩ := (show RwS true a s w w8 from hS8)
        have e3 : (ByteArray.mk #[1] ++ strOfNums [0 / 16777216, 0 / 65536 % 256, 0 / 256 % 256, 0 % 256] ++ strOfNums [s / 16777216, s / 65536 % 256, s / 256 % 256, s % 256]) = strOfNums (recH true a s) := by
          rw [show (ByteArray.mk #[1]) = strOfNums [1] from rfl, str_app, str_app]
          rfl
        first
          | rw [e3]
          | (rw [show ([0 / 16777216, 0 / 65536 % 256, 0 / 256 % 256, 0 % 256] : List Int) = [0, 0, 0, 0] from rfl] at e3; rw [e3])
        clear e3
        have hb := recH_b (o := true) a0 a1 s0 s1
        have hcb := crc_b hb
        have hl := recH_length true a s
        have hr := rSum_any (recH true a s) hb (by omega)
        clear hb hS4 hS8
        go_wp2_with fail
        refine (hr _).mono ?_
        rintro e w5 ⟨rfl, rfl⟩
        go_wp2_with fail
        refine (four_any _ _ hcb.1 hcb.2).mono ?_
        rintro e w6 ⟨rfl, hb6⟩
        have hB := q4.trans (hb6.mono (Nat.le_of_lt q3))
        clear hr
        go_wp2
        go_ret
        refine ⟨?_, hB⟩
        show Ending.returned (.string (strOfNums (recH true a s) ++ strOfNums (b4 (crc (recH true a s))))) = _
        rw [str_app]
        rfl
end Go.Proofs.Ytppbdalkfkemgaa
