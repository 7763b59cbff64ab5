import Derived.Test.YtakaadcpaeiccabGreatC43
import Derived.Deep.QuietTactic
import Derived.BigQuiet
namespace Go.Proofs.YtakaadcpaeiccabGreat
open Go.RowKit Go.Maps

theorem draws_below1 (W : World) (q : Nat) : Below W.heap.size W (W.drewN q) := below_drewN (Below.refl _ _) q

theorem NewRow {W1 : World} {M : Nat} {f : Int → Option Nat} {s : Nat} (hm : MapP W1 M f s) (hs : s ≤ 8) {x : Bool × Int × Int} (hx : U32 x.2.1) (hf : f x.2.1 = none) :
    ∀ q : Nat × Nat, ∃ W6, (Instr.mapUpdate 156 (.map (some M)) (.int .u32 x.2.1) (.pointer (some ⟨W1.heap.size, 0, none⟩))).run Tryz.prog (((W1.drewN q.1).alloc (rtBox (nwR x) (.slice none 0 0))).drewN q.2) = .ok () W6 ∧
      MapP W6 M (updP f x.2.1 (some W1.heap.size)) (s + 1) ∧ LnB W1.heap.size (nwR x) (.slice none 0 0) W6 ∧ W1.grownBy W6 (some M) := by
  intro q
  have hb : Below W1.heap.size W1 (((W1.drewN q.1).alloc (rtBox (nwR x) (.slice none 0 0))).drewN q.2) := below_drewN ((below_drewN (Below.refl _ _) q.1).alloc (Nat.le_refl _) _) q.2
  have hm1 := hm.block (hb.block M hm.lt)
  have hN : LnB W1.heap.size (nwR x) (.slice none 0 0) (((W1.drewN q.1).alloc (rtBox (nwR x) (.slice none 0 0))).drewN q.2) := LnB.new (nwR x) (.slice none 0 0) (W1.drewN q.1)
  have hMl := hm.lt
  obtain ⟨W6, hr, hm6, hg6⟩ := hm1.put (by unfold maxLen; omega) hx W1.heap.size
  rw [hf, if_neg (by simp)] at hm6
  exact ⟨W6, hr, hm6, hN.block (hg6.block _ hN.lt (fun e => by cases e; omega)), ⟨hg6.os.trans hb.os, hg6.tape.trans hb.tape, hg6.output.trans hb.output, Nat.le_trans hb.size hg6.size, fun k hk hn => (hg6.block k (Nat.lt_of_lt_of_le hk hb.size) hn).trans (hb.block k hk)⟩⟩

set_option maxRecDepth 100000 in
set_option maxHeartbeats 4000000 in
theorem NewRoutes_any (me : Int) (ao : Option Addr) (n c : Nat) (L : List (Bool × Int × Int)) (hL : L.length = n) (hn : n ≤ 50000) (hbd : RBd L) (w : World) (hA : HoldsC w ao (RC L)) :
    Calls Tryz.prog 44 #[.int .u32 me, .slice ao n c] w fun e w' => ∃ T out, e = .returned (.pointer (some ⟨T, 0, none⟩)) ∧ IsCmp (mpL L) (owL L) out ∧ Tab me T (fun k => w.heap.size ≤ k ∧ k < w'.heap.size) (nwL me out) w' ∧ Below w.heap.size w w' := by
  have hmm := @run_makeMap Tryz.prog
  have hM0 : MapP ((w.alloc (.map #[] 0)).alloc (.cells #[.int .u32 me, .map (some w.heap.size)] 158)) w.heap.size (fun _ => none) 0 := (MapP.made w).block (((Below.refl _ (w.alloc (.map #[] 0))).alloc (Nat.le_refl _) _).block w.heap.size (by simp))
  have hT0 : TbB (w.heap.size + 1) me w.heap.size ((w.alloc (.map #[] 0)).alloc (.cells #[.int .u32 me, .map (some w.heap.size)] 158)) := by
    have := heap_alloc_new (w.alloc (.map #[] 0)) (.cells #[.int .u32 me, .map (some w.heap.size)] 158)
    rw [World.size_alloc] at this
    exact this
  have hb0 : Below w.heap.size w ((w.alloc (.map #[] 0)).alloc (.cells #[.int .u32 me, .map (some w.heap.size)] 158)) := ((Below.refl _ _).alloc (Nat.le_refl _) _).alloc (by simp) _
  have hs0 : ((w.alloc (.map #[] 0)).alloc (.cells #[.int .u32 me, .map (some w.heap.size)] 158)).heap.size = w.heap.size + 2 := by simp
  go_enter Tryz.func44, Tryz.ntmps44
  go_wp2_with fail
  clear hmm
  generalize World.alloc _ _ = W0 at hM0 hT0 hb0 hs0 ⊢
  refine (mCompact_any ao n c L hL hn hbd W0 (hA.below hb0)).mono ?_
  rintro e w1 ⟨v, out, rfl, hcmp, hol, hrow, hb1⟩
  rw [hs0] at hb1 hrow
  have hbb : Below w.heap.size w w1 := hb0.trans (hb1.mono (by omega))
  have hm1 : MT me (w.heap.size + 1) w.heap.size (fun _ => none) (fun _ => .slice none 0 0) [] w1 := MT.empty (hT0.block (hb1.block _ (by omega))) (hM0.block (hb1.block _ (by omega)))
  have hs1 := hb1.size
  rw [hs0] at hs1
  have hris := ris_cmp hcmp
  obtain ⟨av, cv, rfl, _⟩ := row_form hrow
  clear hM0 hT0 hb0 hb1 hs0 hA
  go_wp2_with fail
  go_loopw [15] (fun i wr => ∃ (k : Nat) (f : Int → Option Nat) (g : Int → Value), k ≤ out.length ∧ i = .int .i64 k ∧ MT me (w.heap.size + 1) w.heap.size f g (nwL me (out.take k)) wr ∧ (∀ q, TIn (w.heap.size + 1) w.heap.size f g (nwL me (out.take k)) q → w.heap.size ≤ q) ∧ wr.ownsRow (w.heap.size + 2) 82 3 (.slice av out.length cv) out.length (RC out) ∧ Below w.heap.size w wr) (fun i _ => out.length - (intOf i).toNat)
  case atStart =>
    refine ⟨0, _, _, Nat.zero_le _, rfl, hm1, ?_, hrow, hbb⟩
    rintro q (rfl | rfl | ⟨x, hx, _⟩)
    · omega
    · omega
    · cases hx
  case round =>
    clear hrow hbb hm1 hs1
    obtain ⟨k, f, g, hk, rfl, hM, hMS, hrow, hb⟩ := hrel
    by_cases hlt : k < out.length
    · have hki : (k : Int) < (out.length : Int) := by omega
      obtain ⟨x, hx⟩ : ∃ x, out[k]? = some x := ⟨_, List.getElem?_eq_getElem (by omega)⟩
      have hat : ∀ i z, i < 3 → ([.bool x.1, .int .u32 x.2.1, .int .u32 x.2.2] : List Value)[i]? = some z → (RC out)[k * 3 + i]? = some z := fun i z hi hz => (flat_at (fun x : Bool × Int × Int => ([Value.bool x.1, Value.int .u32 x.2.1, Value.int .u32 x.2.2] : List Value)) 3 (by decide) (fun _ => rfl) out k i hi hx).trans hz
      obtain ⟨av', cv', hv, hA'⟩ := row_form hrow
      obtain ⟨rfl, rfl⟩ : av' = av ∧ cv' = cv := by cases hv; exact ⟨rfl, rfl⟩
      clear hv
      obtain ⟨b1, o1, rfl, hj1⟩ := hA' (k * 3 + 0) _ (hat 0 _ (by decide) rfl)
      have d0 := hA'.one rfl (hat 0 _ (by decide) rfl)
      have d1 := hA'.one rfl (hat 1 _ (by decide) rfl)
      have d2 := hA'.one rfl (hat 2 _ (by decide) rfl)
      rw [Nat.add_zero] at d0
      rw [← Nat.add_assoc] at d1 d2
      have hst := (show Hid _ from nwL_take me hx)
      have hxo := fun h => nwR_ok hbd hcmp (List.mem_of_getElem? hx) h
      have hbl := (show Hid _ from nwL_below me hris hx)
      have hln := (show Hid _ from nwL_len me out k)
      generalize hAe : nwL me (out.take k) = A at hM hMS hst hbl hln
      obtain ⟨xo, xa, xs⟩ := x
      dsimp only at d0 d1 d2 hxo
      have hM1 := hM.later ((Below.refl _ wr).alloc (Nat.le_refl _) (recBox xo xa xs))
      have hrow1 := hrow.alloc (recBox xo xa xs)
      have hb1 := hb.alloc hb.size (recBox xo xa xs)
      have hB1 : RBk wr.heap.size xo xa xs (wr.alloc (recBox xo xa xs)) := RBk.new xo xa xs wr
      have hs1 := hM.map.lt
      have hskip : (nwP me (xo, xa, xs) && decide (A.length < 8)) = false → Hid (nwL me (out.take (k + 1)) = A) := fun h => by
        show _ = _
        rw [hst.out]
        exact if_neg (by rw [h]; simp)
      have hadd : (nwP me (xo, xa, xs) && decide (A.length < 8)) = true → Hid (nwL me (out.take (k + 1)) = A ++ [nwR (xo, xa, xs)]) := fun h => by
        show _ = _
        rw [hst.out]
        exact if_pos h
      clear hj1 hat hA' hx hM hrow hb hAe hst
      have hsz : (wr.alloc (recBox xo xa xs)).heap.size = wr.heap.size + 1 := by simp
      dsimp only [recBox] at hM1 hrow1 hb1 hB1 hsz
      have hk1 : k + 1 ≤ out.length := by omega
      go_upto_region 5 with (fail)
      generalize World.alloc _ _ = W1 at hM1 hrow1 hb1 hB1 hsz ⊢
      obtain ⟨c0, c1, c2⟩ := hB1.cell
      go_cut [32] from 19 to 32 (fun p W6 => p = .bool (nwP me (xo, xa, xs) && decide (A.length < 8)) ∧ W1 = W6)
      case first =>
        have hfull := (show Hid _ from full_any (w.heap.size + 1) w.heap.size A.length me f _ hM1.blk hM1.map)
        have hlt8 : Hid (decide (A.length < 8) = !decide (8 ≤ A.length)) := by
          show _ = _
          by_cases h8 : 8 ≤ A.length
          · simp [h8]
          · simp [h8]; omega
        clear hskip hadd hxo hbl hM1 hrow1 hb1
        cases xo
        · cases hxm : (xa != me)
          · have hv : Hid ((nwP me (false, xa, xs) && decide (A.length < 8)) = false) := by
              show _ = _
              simp only [nwP, hxm]
              rfl
            clear hfull
            go_wp2_with fail
            go_meet
            exact ⟨(congrArg Value.bool hv.out).symm, rfl⟩
          · have hv : Hid ((nwP me (false, xa, xs) && decide (A.length < 8)) = !decide (8 ≤ A.length)) := by
              show _ = _
              rw [hlt8.out]
              simp only [nwP, hxm]
              rfl
            clear hlt8
            go_wp2_with fail
            refine Calls.mono hfull.out ?_
            rintro e w3 ⟨rfl, rfl⟩
            clear hfull
            go_wp2_with fail
            go_meet
            exact ⟨(congrArg Value.bool hv.out).symm, rfl⟩
        · have hv : Hid ((nwP me (true, xa, xs) && decide (A.length < 8)) = false) := by
            show _ = _
            simp [nwP]
          clear hfull
          go_wp2_with fail
          go_meet
          exact ⟨(congrArg Value.bool hv.out).symm, rfl⟩
      case rest =>
        obtain ⟨rfl, hW⟩ := hcut
        subst hW
        have hwk0 : Hid (wrap64 ((k : Int) + 1) = (k : Int) + 1) := by
          show _ = _
          unfold wrap64
          omega
        have hme : Hid (out.length - (intOf (.int .i64 ((k : Int) + 1))).toNat < out.length - (intOf (.int .i64 (k : Int))).toNat) := by
          show _ < _
          simp [intOf]
          omega
        have hstay : Hid (nwL me (out.take (k + 1)) = A) → Hid (∃ (k' : Nat) (f' : Int → Option Nat) (g' : Int → Value), k' ≤ out.length ∧ Value.int .i64 ((k : Int) + 1) = .int .i64 k' ∧ MT me (w.heap.size + 1) w.heap.size f' g' (nwL me (out.take k')) W1 ∧ (∀ q, TIn (w.heap.size + 1) w.heap.size f' g' (nwL me (out.take k')) q → w.heap.size ≤ q) ∧ (W1).ownsRow (w.heap.size + 2) 82 3 (.slice (some ⟨b1, o1, none⟩) out.length cv') out.length (RC out) ∧ Below w.heap.size w W1) := fun h => by
          show ∃ k' f' g', _
          refine ⟨k + 1, f, g, hk1, by simp, ?_⟩
          rw [h.out]
          exact ⟨hM1, hMS, hrow1, hb1⟩
        have hA8 := hln.out
        cases hb : (nwP me (xo, xa, xs) && decide (A.length < 8))
        · have hsk := hstay (hskip hb)
          clear hskip hadd hstay hb
          go_wp2
          exact ⟨hsk.out, hme.out⟩
        · have had := hadd hb
          have hp : nwP me (xo, xa, xs) = true := by revert hb; cases nwP me (xo, xa, xs) <;> simp
          have hl8 : A.length < 8 := by
            rw [hp, Bool.true_and] at hb
            simpa using hb
          obtain rfl : xo = false := nwP_oth hp
          have hxu := hxo rfl
          have hbx : ∀ z ∈ A, z.dest < xa := hbl.out hp
          have hno : lineOf A xa = none := lineOf_none.2 fun z hz => by
            have := hbx z hz
            omega
          obtain ⟨V, hV⟩ := Classical.skolem.1 (NewRow (x := (false, xa, xs)) hM1.map (by omega) hxu.1 (hM1.off hxu.1 hno))
          have v00 := (hV (0, 0)).1
          have v01 := (hV (0, 1)).1
          have v0n := fun q => (hV (0, q)).1
          have v10 := (hV (1, 0)).1
          have v11 := (hV (1, 1)).1
          have v1n := fun q => (hV (1, q)).1
          have vn0 := fun q => (hV (q, 0)).1
          have vn1 := fun q => (hV (q, 1)).1
          have vnn := fun q q' => (hV (q, q')).1
          obtain ⟨t0, t1⟩ := hM1.blk.cell
          dsimp only [rtBox, nwR] at v00 v01 v0n v10 v11 v1n vn0 vn1 vnn
          simp only [World.drewN_zero, ← World.drew_is_drewN] at v00 v01 v0n v10 v11 v1n vn0 vn1
          have hre : ∀ (q : Nat) (B j : Nat) (u : Value), W1.cell? ⟨B, j, none⟩ = some u → ((W1.drewN q).alloc (.cells #[.int .u32 xa, .int .u32 (gr xs), .int .i64 0, .int .u32 0, .bool false, .int .u64 0, .slice none 0 0] 38)).cell? ⟨B, j, none⟩ = some u := fun q B j u h => Go.cell_later ((draws_below1 W1 q).alloc (Nat.le_refl _) _) h
          have r1n := fun q => hre q _ _ _ t1
          have r2n := fun q => hre q _ _ _ c1
          have r3n := fun q => hre q _ _ _ c2
          have r10 := r1n 0
          have r20 := r2n 0
          have r30 := r3n 0
          have r11 := r1n 1
          have r21 := r2n 1
          have r31 := r3n 1
          simp only [World.drewN_zero, ← World.drew_is_drewN] at r10 r20 r30 r11 r21 r31
          have hfin : Hid (∀ q, ∃ (k' : Nat) (f' : Int → Option Nat) (g' : Int → Value), k' ≤ out.length ∧ Value.int .i64 (wrap64 ((k : Int) + 1)) = .int .i64 k' ∧ MT me (w.heap.size + 1) w.heap.size f' g' (nwL me (out.take k')) (V q) ∧ (∀ p, TIn (w.heap.size + 1) w.heap.size f' g' (nwL me (out.take k')) p → w.heap.size ≤ p) ∧ ((V q)).ownsRow (w.heap.size + 2) 82 3 (.slice (some ⟨b1, o1, none⟩) out.length cv') out.length (RC out) ∧ Below w.heap.size w (V q)) := fun q => by
            refine ⟨k + 1, updP f xa (some W1.heap.size), fun e => if e = xa then .slice none 0 0 else g e, hk1, by rw [hwk0.out]; simp, ?_⟩
            rw [had.out]
            obtain ⟨_, hm6, hN6, hg6⟩ := hV q
            have hf := hM1.fresh (d := xa) (y := nwR (false, xa, xs)) rfl (nwR_rok hxu.1 hxu.2) rfl (N := W1.heap.size) (Nat.le_refl _) (w' := V q) (A' := A ++ [nwR (false, xa, xs)]) hN6 (by rw [List.length_append]; exact hm6) (fun p hp hpM => hg6.block p hp (fun e => hpM (by cases e; rfl))) (fun z hz => by
              rcases List.mem_append.1 hz with hz | hz
              · exact .inr ⟨hz, by have := hbx z hz; omega⟩
              · exact .inl (by simpa using hz)) (by simp) (fun z hz _ => List.mem_append_left _ hz) (asc_snoc hM1.asc hbx) (by rw [List.length_append]; simp; omega)
            refine ⟨hf.1, fun p hp => ?_, ?_, ?_⟩
            · rcases hf.2 p hp with h1 | rfl
              · exact hMS p h1
              · omega
            · exact row_at hrow1 fun p hp => hg6.block p (hrow1.lt p hp).2 (fun e => by
                have h1 := (hrow1.lt p hp).1
                cases e
                omega)
            · exact hb1.grown hg6 hb1.size (fun p e => by cases e; exact Nat.le_refl _)
          clear hV hno hp hl8 hxo hre hbl hskip hadd had hstay hM1 hrow1 hb1 hMS hcmp hris hbd hB1 hs1 hol hL hn hki hk hA8 hln hbx hsz
          have hme2 : Hid (out.length - (intOf (.int .i64 (wrap64 ((k : Int) + 1)))).toNat < out.length - (intOf (.int .i64 (k : Int))).toNat) := by
            show _ < _
            rw [hwk0.out]
            exact hme.out
          clear hme hwk0
          go_wp2_with fail
          clear hb
          go_region_law (go_simp; go_at_call 42; refine (grown_any _ _).mono ?_; rintro e w5 ⟨rfl, rfl⟩)
          all_goals
            clear r1n r2n r3n r10 r20 r30 r11 r21 r31 v00 v01 v0n v10 v11 v1n vn0 vn1 vnn c0 c1 c2 t0 t1
            go_wp2
            exact ⟨hfin.out _, hme2.out⟩
    · have hkn : out.length ≤ k := by omega
      rw [List.take_of_length_le hkn] at hM hMS
      clear hrow hkn
      go_wp2
      go_ret
      exact ⟨_, out, rfl, hcmp, ⟨_, f, g, hM, fun q hq => ⟨hMS q hq, hM.lt hq⟩⟩, hb⟩
end Go.Proofs.YtakaadcpaeiccabGreat
