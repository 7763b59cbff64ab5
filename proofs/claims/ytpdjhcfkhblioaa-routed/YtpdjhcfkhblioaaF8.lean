import Derived.Test.YtpdjhcfkhblioaaF7
import Derived.Test.YtpdjhcfkhblioaaL3
import Derived.Deep.CutRange
import Derived.Deep.RegionHeldLaw
namespace Go.Proofs.Ytpdjhcfkhblioaa
open Go.RowKit Go.Maps

def lsP (nxt : Int) (y : Rt) : Bool := y.valid && (y.next == nxt)
theorem loseF_lsP (nxt : Int) : (fun y => if lsP nxt y then endR y 0 else y) = loseF nxt 0 := rfl
theorem brkP_lsP (nxt : Int) (y : Rt) : brkP nxt y = if lsP nxt y && decide (0 < y.bef.length) then some (y.dest, max (gr y.seq) 0) else none := rfl
theorem brkM_snoc (nxt : Int) {L : List (Rt × Value)} {k : Nat} {x : Rt} {u : Value} (h : L[k]? = some (x, u)) : brkL nxt ((L.map (·.1)).take (k + 1)) = brkL nxt ((L.map (·.1)).take k) ++ (brkP nxt x).toList :=
  brkL_snoc nxt (map_at h)

/-- What the telling of a loss reads. -/
@[reducible] def BrS (T G j : Nat) (v d s : Value) (W : World) : Prop := W.cell? ⟨T, 1, none⟩ = some v ∧ W.cell? ⟨G, j, none⟩ = some d ∧ W.cell? ⟨G, j + 1, none⟩ = some s
theorem BrS.drew {T G j : Nat} {v d s : Value} {W : World} (h : BrS T G j v d s W) : BrS T G j v d s W.drew := h
theorem BrS.alloc {T G j : Nat} {v d s : Value} {W : World} (h : BrS T G j v d s W) (o : Obj) : BrS T G j v d s (W.alloc o) :=
  ⟨cell_later ((Below.refl _ W).alloc (Nat.le_refl _) o) h.1, cell_later ((Below.refl _ W).alloc (Nat.le_refl _) o) h.2.1, cell_later ((Below.refl _ W).alloc (Nat.le_refl _) o) h.2.2⟩
theorem BrS.grown {T G j n : Nat} {v d s : Value} {W W' : World} {r : Option Nat} (h : BrS T G j v d s W) (hg : W.grownBy W' r) (hr : ∀ k, r = some k → n ≤ k) (hT : T < n) (hG : G < n) (hn : n ≤ W.heap.size) : BrS T G j v d s W' := by
  have hc : ∀ (B i : Nat) (u : Value), B < n → W.cell? ⟨B, i, none⟩ = some u → W'.cell? ⟨B, i, none⟩ = some u := fun B i u hB hu => by
    have hb := hg.block B (Nat.lt_of_lt_of_le hB hn) (fun e => by have := hr B e.symm; omega)
    rw [← hu]
    simp [World.cell?, hb]
  exact ⟨hc _ _ _ hT h.1, hc _ _ _ hG h.2.1, hc _ _ _ hG h.2.2⟩

set_option maxRecDepth 100000 in
set_option maxHeartbeats 4000000 in
theorem rBroken_any (me : Int) (T : Nat) (S : Nat → Prop) (A : List Rt) (nxt : Int) (w : World) (h : RTab me T S A w) (hSb : ∀ k, S k → k < w.heap.size) :
    Calls Try.prog 46 #[.pointer (some ⟨T, 0, none⟩), .int .u32 nxt] w fun e w' => ∃ v, e = .returned v ∧ w'.ownsRow w.heap.size 87 2 v (brkL nxt A).length (LsC (brkL nxt A)) ∧ RTab me T S (A.map (loseF nxt 0)) w' ∧ Fx S w w' := by
  obtain ⟨i0, hi, hz0, hz1, hz2⟩ := info_parts info_ls
  obtain ⟨v, L, rfl, hM0, hS⟩ := h
  have hlen := hM0.len
  obtain ⟨vo, vc, rfl⟩ := hM0.slice
  go_enter Try.func46, Try.ntmps46
  go_wp2_with fail
  go_loopw [5, 6] (fun lv i wr => ∃ k : Nat, k ≤ L.length ∧ i = .int .i64 k ∧ RM me T (.slice vo L.length vc) (stepP (lsP nxt) k L) wr ∧ wr.ownsRow w.heap.size 87 2 lv (brkL nxt ((L.map (·.1)).take k)).length (LsC (brkL nxt ((L.map (·.1)).take k))) ∧ Fx S w wr) (fun _ i _ => L.length - (intOf i).toNat)
  case atStart => exact ⟨0, Nat.zero_le _, rfl, by rw [stepP_zero]; exact hM0, ⟨rfl, .inl ⟨rfl, rfl⟩⟩, Fx.refl _ _⟩
  case round =>
    clear hM0
    obtain ⟨k, hk, rfl, hM, hls, hfx⟩ := hrel
    obtain ⟨t0, t1⟩ := hM.cell
    by_cases hlt : k < L.length
    · have hki : (k : Int) < (L.length : Int) := by omega
      obtain ⟨⟨x, u⟩, hp0⟩ : ∃ p, L[k]? = some p := ⟨_, List.getElem?_eq_getElem hlt⟩
      have hp : (stepP (lsP nxt) k L)[k]? = some (x, u) := by rw [stepP_get, hp0]
      obtain ⟨ub, uc, hub, _⟩ := row_form (hM.bef _ (List.mem_of_getElem? hp))
      dsimp only at hub
      subst hub
      obtain ⟨G, cap, hv, hc, hf⟩ := hM.at hp
      rw [stepP_length] at hv
      cases hv
      have c3 := hc 3 _ rfl
      have c4 := hc 4 _ rfl
      have c6 := hc 6 _ rfl
      dsimp only at c3 c4 c6
      have hst := (show Hid _ from stepP_set (lsP nxt) hp0)
      have hsm := fun hF => (show Hid _ from stepP_same (lsP nxt) hp0 hF)
      have hSG : S G := hS _ RM.inG
      have hGlt : G < w.heap.size := hSb G hSG
      have hsn := (show Hid _ from brkM_snoc nxt hp0)
      have hkl : Hid ((brkL nxt ((L.map (·.1)).take k)).length ≤ k) := by
        show _ ≤ _
        have := brkL_length nxt ((L.map (·.1)).take k)
        simp at this
        omega
      by_cases hvn : lsP nxt x = true
      · have hxv : x.valid = true := by unfold lsP at hvn; revert hvn; cases x.valid <;> simp
        have hxn : (x.next == nxt) = true := by unfold lsP at hvn; revert hvn; cases x.valid <;> simp
        rw [hxv] at c4
        have HE := (show Hid _ from rend_any hM hp 0 (by simp [U32]))
        have hpe : Hid (pend (lsP nxt) 0 (x, .slice ub x.bef.length uc) = (endR x 0, .slice none 0 0)) := by
          show _ = _
          unfold pend
          exact if_pos hvn
        have hpn : Hid (((stepP (lsP nxt) k L).set k (endR x 0, .slice none 0 0))[k]? = some (endR x 0, .slice none 0 0)) := by
          show _ = _
          rw [List.getElem?_set_self (by rw [stepP_length]; exact hlt)]
        have hbp := brkP_lsP nxt x
        rw [hvn, Bool.true_and] at hbp
        have hbP := (show Hid _ from hbp)
        clear hM hp hc hf hp0 hsm hvn hbp
        by_cases hbf : 0 < x.bef.length
        · have hb1 : decide (0 < x.bef.length) = true := decide_eq_true hbf
          have hb2 : decide (0 < (x.bef.length : Int)) = true := decide_eq_true (by omega)
          have hbp2 : Hid (brkP nxt x = some (x.dest, max (gr x.seq) 0)) := by
            show _ = _
            rw [hbP.out, hb1]
            rfl
          go_wp2_with fail
          refine Calls.mono HE.out ?_
          rintro e w2 ⟨rfl, hM2, hg2⟩
          have hls2 : w2.ownsRow w.heap.size 87 2 u5 (brkL nxt ((L.map (·.1)).take k)).length (LsC (brkL nxt ((L.map (·.1)).take k))) := row_at hls fun q hq => hg2.block q (hls.lt q hq).2 (fun e => by
            have h1 := (hls.lt q hq).1
            have h2 : q = G := Option.some.inj e
            omega)
          have hfx2 := hfx.trans (Fx.grown (S := S) hg2 (fun q e => by cases e; exact hSG)) (fun _ _ h => h)
          obtain ⟨G', cap', hv', hc', _⟩ := hM2.at hpn.out
          rw [List.length_set, stepP_length] at hv'
          cases hv'
          obtain ⟨t0', t1'⟩ := hM2.cell
          have d0 := hc' 0 _ rfl
          have d1 := hc' 1 _ rfl
          dsimp only [endR] at d0 d1
          rw [Nat.add_zero] at d0
          rw [← hpe.out, hst.out] at hM2
          clear HE c3 c4 c6 t0 t1 hfx hg2 hst hpe hc' hls hbP
          have hs1 : w.heap.size ≤ w2.heap.size := hfx2.size
          have hla := hls2.lt
          have hk1 : Hid ((brkL nxt ((L.map (·.1)).take k)).length + 1 ≤ maxLen) := by
            show _ ≤ _
            have := hkl.out
            unfold maxLen
            omega
          have hk2 : Hid (((brkL nxt ((L.map (·.1)).take k)).length + 1) * 8 ≤ 140737488355328) := by
            show _ ≤ _
            have := hkl.out
            omega
          rw [hbp2.out] at hsn
          generalize max (gr x.seq) 0 = qs at hsn d1
          have hbA : Hid (∀ o : Obj, w.heap.size ≤ (w2.alloc o).drew.heap.size) := by
            intro o
            show w.heap.size ≤ (w2.alloc o).heap.size
            rw [World.size_alloc]
            omega
          have hre : ∀ (o : Obj) (B j : Nat) (u : Value), w2.cell? ⟨B, j, none⟩ = some u → (w2.alloc o).cell? ⟨B, j, none⟩ = some u := fun o B j u h => cell_later ((Below.refl _ w2).alloc (Nat.le_refl _) o) h
          have rT := fun o => hre o _ _ _ t1'
          have r0 := fun o => hre o _ _ _ d0
          have r1 := fun o => hre o _ _ _ d1
          have hfin : Hid (∀ v7 w7, World.ownsRow w7 w.heap.size 87 2 v7 ((brkL nxt ((L.map (·.1)).take k)).length + 1) (LsC (brkL nxt ((L.map (·.1)).take k)) ++ LsC [(x.dest, qs)]) → (w2.alloc (.cells #[.int .u32 x.dest, .int .u32 qs] 87)).drew.grownBy w7 u5.ownBlock → ∃ k' : Nat, k' ≤ L.length ∧ Value.int .i64 ((k : Int) + 1) = .int .i64 k' ∧ RM me T (.slice (some ⟨G, 0, none⟩) L.length vc) (stepP (lsP nxt) k' L) w7 ∧ w7.ownsRow w.heap.size 87 2 v7 (brkL nxt ((L.map (·.1)).take k')).length (LsC (brkL nxt ((L.map (·.1)).take k'))) ∧ Fx S w w7) := fun v7 w7 ho7 hg7 => by
            have hb3 : Below w2.heap.size w2 (w2.alloc (.cells #[.int .u32 x.dest, .int .u32 qs] 87)).drew := below_drewN ((Below.refl _ _).alloc (Nat.le_refl _) _) 1
            have hM3 := hM2.later hb3
            have hM7 : RM me T (.slice (some ⟨G, 0, none⟩) L.length vc) (stepP (lsP nxt) (k + 1) L) w7 := hM3.kept fun q hq => hg7.block q (hM3.lt hq) (fun e => by
              have h1 := (hla q e.symm).1
              have h2 := hSb q (hS q hq.step)
              omega)
            refine ⟨k + 1, by omega, by simp, hM7, ?_, ?_⟩
            · rw [hsn.out, Option.toList_some, LsC_append, List.length_append]
              exact ho7
            · exact (hfx2.trans (Fx.below (S := S) hb3) (fun _ _ h => h)).trans (Fx.grown (S := fun q => w.heap.size ≤ q) hg7 (fun q e => (hla q e).1)) (fun q hq hq' => by omega)
          have hls3 := hls2
          have hmeas : Hid (L.length - (intOf (.int .i64 ((k : Int) + 1))).toNat < L.length - (intOf (.int .i64 (k : Int))).toNat) := by
            show _ < _
            simp [intOf]
            omega
          have hwk : wrap64 ((k : Int) + 1) = (k : Int) + 1 := by unfold wrap64; omega
          have hTl := hSb T (hS T (.inl rfl))
          have hGl := hGlt
          have hBS : BrS T G (k * 7) (.slice (some ⟨G, 0, none⟩) L.length vc) (.int .u32 x.dest) (.int .u32 qs) w2 := ⟨t1', d0, d1⟩
          have hla' : Hid (∀ q, u5.ownBlock = some q → w.heap.size ≤ q) := fun q hq => (hla q hq).1
          clear hM2 hfx2 hla hsn hre hkl hpn hbp2 hs1 hGlt hls2 hSG t0' t1' d0 d1 rT r0 r1
          go_wp2_with fail
          go_region_held_law (BrS T G (k * 7) (.slice (some ⟨G, 0, none⟩) L.length vc) (.int .u32 x.dest) (.int .u32 qs)) (first | assumption | exact BrS.drew (by assumption) | exact BrS.alloc (by assumption) _) (first | (refine step_append_own rfl (.tmp 51) (.tmp 69) 24 rfl w.heap.size 87 i0 (.agg #[.int .u32 0, .int .u32 0]) 2 8 Try.underlying24 hi hz0 hz1 hz2 rfl (by decide) u5 (brkL nxt ((L.map (·.1)).take k)).length (LsC (brkL nxt ((L.map (·.1)).take k))) (by simp [Act.eval]) (hls3.alloc _).drew ⟨_, 0, none⟩ 1 1 (LsC [(x.dest, qs)]) (by simp [Act.eval]) rfl (cells_ls w2 x.dest qs) (one_ls x.dest qs) hk1.out hk2.out (hbA.out _) ?_; intro v7 w7 ho7 hg7; have hS7 := BrS.grown (hBS.alloc _).drew hg7 hla'.out (n := w.heap.size) hTl hGl (hbA.out _)))
          all_goals
            have hf7 := hfin.out v7 w7 ho7 hg7
            clear ho7 hg7 hfin
            go_wp2
            exact ⟨hf7, hmeas.out⟩
        · have hb1 : decide (0 < x.bef.length) = false := decide_eq_false hbf
          have hb2 : decide (0 < (x.bef.length : Int)) = false := decide_eq_false (by omega)
          have hbp2 : Hid (brkP nxt x = none) := by
            show _ = _
            rw [hbP.out, hb1]
            rfl
          rw [hbp2.out, Option.toList_none, List.append_nil] at hsn
          go_wp2_with fail
          refine Calls.mono HE.out ?_
          rintro e w2 ⟨rfl, hM2, hg2⟩
          have hls2 : w2.ownsRow w.heap.size 87 2 u5 (brkL nxt ((L.map (·.1)).take k)).length (LsC (brkL nxt ((L.map (·.1)).take k))) := row_at hls fun q hq => hg2.block q (hls.lt q hq).2 (fun e => by
            have h1 := (hls.lt q hq).1
            have h2 : q = G := Option.some.inj e
            omega)
          have hfx2 := hfx.trans (Fx.grown (S := S) hg2 (fun q e => by cases e; exact hSG)) (fun _ _ h => h)
          rw [← hpe.out, hst.out] at hM2
          have hl2 := (show Hid _ from hls2)
          rw [← hsn.out] at hl2
          clear HE c3 c4 c6 t0 t1 hfx hg2 hst hpe hls hbP hls2
          go_wp2
          go_roundw
          case rel => exact ⟨k + 1, by omega, by go_num, hM2, hl2.out, hfx2⟩
          case measure => simp [intOf]; omega
      · have hF : lsP nxt x = false := by simpa using hvn
        have hs := hsm hF
        have hbp2 : Hid (brkP nxt x = none) := by
          show _ = _
          rw [brkP_lsP, hF]
          rfl
        rw [hbp2.out, Option.toList_none, List.append_nil] at hsn
        have hrl : Hid (RM me T (.slice (some ⟨G, 0, none⟩) L.length vc) (stepP (lsP nxt) (k + 1) L) wr) := by
          show RM _ _ _ _ _
          rw [hs.out]
          exact hM
        have hl2 := (show Hid _ from hls)
        rw [← hsn.out] at hl2
        clear hM hp hc hf hp0 hsm hs hst hls hsn hvn
        cases hyv : x.valid
        · rw [hyv] at c4
          clear hF
          go_wp2
          go_roundw
          case rel => exact ⟨k + 1, by omega, by go_num, hrl.out, hl2.out, hfx⟩
          case measure => simp [intOf]; omega
        · rw [hyv] at c4
          have hye : (x.next == nxt) = false := by
            unfold lsP at hF
            rw [hyv, Bool.true_and] at hF
            exact hF
          clear hF
          go_wp2
          go_roundw
          case rel => exact ⟨k + 1, by omega, by go_num, hrl.out, hl2.out, hfx⟩
          case measure => simp [intOf]; omega
    · have hkn : L.length ≤ k := by omega
      have hall := (show Hid ((stepP (lsP nxt) k L).map (·.1) = L.map (loseF nxt 0 ∘ (·.1))) from (stepP_all (lsP nxt) hkn).trans (List.map_map ..))
      have hMh := (show Hid _ from hM)
      rw [List.take_of_length_le (by simpa using hkn)] at hls
      clear hM hkn
      go_wp2
      go_ret
      exact ⟨_, rfl, hls, ⟨_, _, hall.out, hMh.out, fun q hq => hS q hq.step⟩, hfx⟩
end Go.Proofs.Ytpdjhcfkhblioaa
