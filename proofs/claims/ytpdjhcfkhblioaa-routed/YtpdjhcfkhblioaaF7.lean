import Derived.Test.YtpdjhcfkhblioaaGH
namespace Go.Proofs.Ytpdjhcfkhblioaa
open Go.RowKit Go.Maps

/-- The first j lines turned, each by its list of neighbours too. -/
def pend (F : Rt → Bool) (s : Int) (p : Rt × Value) : Rt × Value := if F p.1 then (endR p.1 s, .slice none 0 0) else p
def stepP (F : Rt → Bool) (j : Nat) (L : List (Rt × Value)) : List (Rt × Value) := (L.take j).map (pend F 0) ++ L.drop j
theorem stepP_zero (F : Rt → Bool) (L : List (Rt × Value)) : stepP F 0 L = L := by simp [stepP]
theorem stepP_length (F : Rt → Bool) (j : Nat) (L : List (Rt × Value)) : (stepP F j L).length = L.length := by
  unfold stepP
  rw [List.length_append, List.length_map, ← List.length_append, List.take_append_drop]
theorem stepP_get (F : Rt → Bool) {L : List (Rt × Value)} {j : Nat} : (stepP F j L)[j]? = L[j]? := by
  unfold stepP
  by_cases hj : j ≤ L.length
  · have h0 : ((L.take j).map (pend F 0)).length = j := by rw [List.length_map, List.length_take, Nat.min_eq_left hj]
    rw [List.getElem?_append_right (by omega), h0, Nat.sub_self, List.getElem?_drop, Nat.add_zero]
  · rw [List.getElem?_eq_none (by simp; omega), List.getElem?_eq_none (by omega)]
theorem stepP_set (F : Rt → Bool) {L : List (Rt × Value)} {j : Nat} {p : Rt × Value} (hp : L[j]? = some p) : (stepP F j L).set j (pend F 0 p) = stepP F (j + 1) L := by
  obtain ⟨hj, rfl⟩ := List.getElem?_eq_some_iff.1 hp
  unfold stepP
  have h0 : j - ((L.take j).map (pend F 0)).length = 0 := by rw [List.length_map, List.length_take, Nat.min_eq_left (Nat.le_of_lt hj), Nat.sub_self]
  rw [List.set_append_right _ _ (by simp; omega), List.take_succ_eq_append_getElem hj, List.map_append, List.append_assoc]
  congr 1
  rw [h0, List.drop_eq_getElem_cons hj]
  rfl
theorem stepP_same (F : Rt → Bool) {L : List (Rt × Value)} {j : Nat} {p : Rt × Value} (hp : L[j]? = some p) (hF : F p.1 = false) : stepP F (j + 1) L = stepP F j L := by
  rw [← stepP_set F hp, show pend F 0 p = p by unfold pend; rw [if_neg (by rw [hF]; simp)]]
  have h1 : (stepP F j L)[j]? = some p := by rw [stepP_get, hp]
  obtain ⟨hj, e⟩ := List.getElem?_eq_some_iff.1 h1
  conv => lhs; rw [← e]
  exact List.set_getElem_self hj
theorem stepP_all (F : Rt → Bool) {L : List (Rt × Value)} {j : Nat} (h : L.length ≤ j) : (stepP F j L).map (·.1) = (L.map (·.1)).map (fun y => if F y then endR y 0 else y) := by
  unfold stepP
  rw [List.take_of_length_le h, List.drop_eq_nil_of_le h, List.append_nil, List.map_map, List.map_map]
  refine List.map_congr_left fun p _ => ?_
  simp only [Function.comp, pend]
  split <;> rfl
theorem RIn.step {F : Rt → Bool} {T j : Nat} {v : Value} {L : List (Rt × Value)} {k : Nat} (h : RIn T v (stepP F j L) k) : RIn T v L k := by
  rcases h with h | h | ⟨p, hp, h⟩
  · exact .inl h
  · exact .inr (.inl h)
  · rcases List.mem_append.1 hp with hp | hp
    · obtain ⟨q, hq, rfl⟩ := List.mem_map.1 hp
      unfold pend at h
      split at h
      · cases h
      · exact .inr (.inr ⟨q, List.mem_of_mem_take hq, h⟩)
    · exact .inr (.inr ⟨p, List.mem_of_mem_drop hp, h⟩)

set_option maxRecDepth 100000 in
set_option maxHeartbeats 4000000 in
theorem rExpire_any (me : Int) (T : Nat) (S : Nat → Prop) (A : List Rt) (now : Int) (w : World) (h : RTab me T S A w) :
    Calls Try.prog 48 #[.pointer (some ⟨T, 0, none⟩), .int .u64 now] w fun e w' => e = .returned (.tuple #[]) ∧ RTab me T S (expL A now) w' ∧ Fx S w w' := by
  obtain ⟨v, L, rfl, hM0, hS⟩ := h
  have hlen := hM0.len
  obtain ⟨vo, vc, rfl⟩ := hM0.slice
  go_enter Try.func48, Try.ntmps48
  go_wp2_with fail
  go_loopw [4] (fun i wr => ∃ k : Nat, k ≤ L.length ∧ i = .int .i64 k ∧ RM me T (.slice vo L.length vc) (stepP (expP now) k L) wr ∧ Fx S w wr) (fun i _ => L.length - (intOf i).toNat)
  case atStart => exact ⟨0, Nat.zero_le _, rfl, by rw [stepP_zero]; exact hM0, Fx.refl _ _⟩
  case round =>
    clear hM0
    obtain ⟨k, hk, rfl, hM, hfx⟩ := hrel
    obtain ⟨t0, t1⟩ := hM.cell
    by_cases hlt : k < L.length
    · have hki : (k : Int) < (L.length : Int) := by omega
      obtain ⟨⟨x, u⟩, hp0⟩ : ∃ p, L[k]? = some p := ⟨_, List.getElem?_eq_getElem hlt⟩
      have hp : (stepP (expP now) k L)[k]? = some (x, u) := by rw [stepP_get, hp0]
      obtain ⟨G, cap, hv, hc, hf⟩ := hM.at hp
      rw [stepP_length] at hv
      cases hv
      have c4 := hc 4 _ rfl
      have c5 := hc 5 _ rfl
      dsimp only at c4 c5
      have hst := (show Hid _ from stepP_set (expP now) hp0)
      have hsm := fun hF => (show Hid _ from stepP_same (expP now) hp0 hF)
      have hSG : S G := hS _ RM.inG
      by_cases hex : expP now x = true
      · have hyv : x.valid = true := by unfold expP at hex; revert hex; cases x.valid <;> simp
        have hye : decide (x.exp ≤ now) = true := by unfold expP at hex; revert hex; cases x.valid <;> simp
        rw [hyv] at c4
        have HE := (show Hid _ from rend_any hM hp 0 (by simp [U32]))
        have hpe : Hid (pend (expP now) 0 (x, u) = (endR x 0, .slice none 0 0)) := by
          show _ = _
          unfold pend
          exact if_pos hex
        clear hM hp hc hf hp0 hsm hex hyv
        go_wp2_with fail
        refine Calls.mono HE.out ?_
        rintro e w2 ⟨rfl, hM2, hg2⟩
        rw [← hpe.out, hst.out] at hM2
        have hfx2 := hfx.trans (Fx.grown (S := S) hg2 (fun q e => by cases e; exact hSG)) (fun _ _ h => h)
        clear HE c4 c5 t0 t1 hfx hg2 hst hpe
        go_wp2
        go_roundw
        case rel => exact ⟨k + 1, by omega, by go_num, hM2, hfx2⟩
        case measure => simp [intOf]; omega
      · have hF : expP now x = false := by simpa using hex
        have hs := hsm hF
        have hrl : Hid (RM me T (.slice (some ⟨G, 0, none⟩) L.length vc) (stepP (expP now) (k + 1) L) wr) := by
          show RM _ _ _ _ _
          rw [hs.out]
          exact hM
        clear hM hp hc hf hp0 hsm hs hst
        cases hyv : x.valid
        · rw [hyv] at c4
          clear hex hF
          go_wp2
          go_roundw
          case rel => exact ⟨k + 1, by omega, by go_num, hrl.out, hfx⟩
          case measure => simp [intOf]; omega
        · rw [hyv] at c4
          have hye : decide (x.exp ≤ now) = false := by
            unfold expP at hF
            rw [hyv, Bool.true_and] at hF
            exact hF
          clear hex hF
          go_wp2
          go_roundw
          case rel => exact ⟨k + 1, by omega, by go_num, hrl.out, hfx⟩
          case measure => simp [intOf]; omega
    · have hkn : L.length ≤ k := by omega
      have hall := (show Hid _ from stepP_all (expP now) hkn)
      have hMh := (show Hid _ from hM)
      clear hM hkn
      go_wp2
      go_end0
      exact ⟨rfl, ⟨_, _, hall.out, hMh.out, fun q hq => hS q hq.step⟩, hfx⟩
end Go.Proofs.Ytpdjhcfkhblioaa
