import Derived.Test.YtpdjhcfkhblioaaF13
import Derived.Test.YtpdjhcfkhblioaaE18
namespace Go.Proofs.Ytpdjhcfkhblioaa
open Go.RowKit Go.Maps

/-- Lines that nobody uses. -/
def nlL (A : List Rt) : List (Rt × Value) := A.map fun x => (x, .slice none 0 0)
theorem nlL_map (A : List Rt) : (nlL A).map (·.1) = A := by
  unfold nlL
  rw [List.map_map]
  exact List.map_id' A
theorem nlL_length (A : List Rt) : (nlL A).length = A.length := by unfold nlL; rw [List.length_map]
theorem nlL_snoc (A : List Rt) (x : Rt) : nlL (A ++ [x]) = nlL A ++ [(x, .slice none 0 0)] := by unfold nlL; rw [List.map_append]; rfl
theorem nlL_nil {A : List Rt} {p : Rt × Value} (h : p ∈ nlL A) : p.2 = .slice none 0 0 := by
  unfold nlL at h
  obtain ⟨x, _, rfl⟩ := List.mem_map.1 h
  rfl
/-- A line more at the end. -/
theorem RM.snoc {me : Int} {T : Nat} {v v' : Value} {A : List Rt} {W W' : World} (h : RM me T v (nlL A) W) {x : Rt} (h8 : A.length < 8) (hx : x.Ok) (hb : x.bef = []) (hbel : ∀ z ∈ A, z.dest < x.dest)
    (hblk : W'.heap[T]? = some (.cells #[.int .u32 me, v'] 94)) (hrow : W'.ownsRow 0 79 7 v' (A.length + 1) (RtC (nlL A) ++ RtC [(x, .slice none 0 0)])) : RM me T v' (nlL (A ++ [x])) W' := by
  have hlen : (nlL (A ++ [x])).length = A.length + 1 := by rw [nlL_length]; simp
  have hasc := h.asc
  rw [nlL_map] at hasc
  refine ⟨hblk, ?_, ?_, ?_, ?_, by rw [hlen]; omega⟩
  · rw [hlen, nlL_snoc, RtC_append]
    exact hrow
  · intro p hp
    have hpn := nlL_nil hp
    rw [nlL_snoc] at hp
    have hpb : p.1.bef = [] := by
      rcases List.mem_append.1 hp with hp | hp
      · have hr := h.bef p hp
        rw [hpn] at hr
        obtain ⟨a, c, hv, _⟩ := row_form hr
        cases hb : p.1.bef with
        | nil => rfl
        | cons a l => rw [hb] at hv; cases hv
      · rw [List.mem_singleton] at hp
        subst hp
        exact hb
    rw [hpn, hpb]
    exact nil_row _
  · rw [nlL_map]
    exact asc_snoc hasc hbel
  · intro p hp
    rw [nlL_snoc] at hp
    rcases List.mem_append.1 hp with hp | hp
    · exact h.ok p hp
    · rw [List.mem_singleton] at hp
      subst hp
      exact hx
theorem grown_drewN {W W' : World} {r : Option Nat} (h : W.grownBy W' r) (q : Nat) : W.grownBy (W'.drewN q) r := ⟨h.os, h.tape, h.output, h.size, h.block⟩

set_option maxRecDepth 100000 in
set_option maxHeartbeats 4000000 in
theorem rNewRoutes_any (me : Int) (_hme : U32 me) (ao : Option Addr) (n c : Nat) (L : List (Bool × Int × Int)) (hL : L.length = n) (hn : n ≤ 50000) (hbd : RBd L) (w : World) (hA : HoldsC w ao (RC L)) :
    Calls Try.prog 33 #[.int .u32 me, .slice ao n c] w fun e w' => ∃ T out, e = .returned (.pointer (some ⟨T, 0, none⟩)) ∧ IsCmp (mpL L) (owL L) out ∧ RTab me T (fun k => w.heap.size ≤ k ∧ k < w'.heap.size) (nwL me out) w' ∧ Below w.heap.size w w' := by
  obtain ⟨i0, hi, hz0, hz1, hz2⟩ := info_parts info_rt
  have hb0 : Below w.heap.size w (w.alloc (.cells #[.int .u32 me, .slice none 0 0] 94)) := (Below.refl _ _).alloc (Nat.le_refl _) _
  have hs0 : (w.alloc (.cells #[.int .u32 me, .slice none 0 0] 94)).heap.size = w.heap.size + 1 := by simp
  have hM0 : RM me w.heap.size (.slice none 0 0) (nlL []) (w.alloc (.cells #[.int .u32 me, .slice none 0 0] 94)) :=
    ⟨heap_alloc_new w _, ⟨rfl, .inl ⟨rfl, rfl⟩⟩, fun p hp => (by cases hp), List.Pairwise.nil, fun p hp => (by cases hp), by simp [nlL]⟩
  go_enter Try.func33, Try.ntmps33
  go_wp2_with fail
  generalize World.alloc _ _ = W0 at hM0 hb0 hs0 ⊢
  refine (rCompact_any ao n c L hL hn hbd W0 (hA.below hb0)).mono ?_
  rintro e w1 ⟨v, out, rfl, hcmp, hol, hrow, hb1⟩
  rw [hs0] at hb1 hrow
  have hbb : Below w.heap.size w w1 := hb0.trans (hb1.mono (by omega))
  have hM1 : RM me w.heap.size (.slice none 0 0) (nlL []) w1 := hM0.kept fun q hq => hb1.block q (by
    have := hM0.lt hq
    omega)
  have hris := ris_cmp hcmp
  obtain ⟨av, cv, rfl, _⟩ := row_form hrow
  clear hM0 hb0 hb1 hs0 hA
  go_wp2_with fail
  go_loopw [7] (fun i wr => ∃ (k : Nat) (v : Value), k ≤ out.length ∧ i = .int .i64 k ∧ RM me w.heap.size v (nlL (nwL me (out.take k))) wr ∧ (∀ q, v.ownBlock = some q → w.heap.size ≤ q) ∧ wr.ownsRow (w.heap.size + 1) 41 3 (.slice av out.length cv) out.length (RC out) ∧ Below w.heap.size w wr) (fun i _ => out.length - (intOf i).toNat)
  case atStart => exact ⟨0, .slice none 0 0, Nat.zero_le _, rfl, hM1, fun q hq => (by cases hq), hrow, hbb⟩
  case round =>
    clear hrow hbb hM1
    obtain ⟨k, v, hk, rfl, hM, hvb, hrow, hb⟩ := hrel
    have hln := nwL_len me out k
    have hfull := (show Hid _ from fun h8 => nwL_full me out (k := k) h8)
    have hend : Hid (out.length ≤ k → nwL me out = nwL me (out.take k)) := fun h => by rw [List.take_of_length_le h]
    obtain ⟨vo, vc, rfl⟩ := hM.slice
    rw [nlL_length] at hM hvb
    obtain ⟨t0, t1⟩ := hM.cell
    have hdone : Hid (nwL me out = nwL me (out.take k) → IsCmp (mpL L) (owL L) out ∧ RTab me w.heap.size (fun k => w.heap.size ≤ k ∧ k < wr.heap.size) (nwL me out) wr ∧ Below w.heap.size w wr) := fun he => by
      refine ⟨hcmp, ⟨.slice vo (nwL me (out.take k)).length vc, nlL (nwL me (out.take k)), by rw [nlL_map, he], hM, fun q hq => ⟨?_, hM.lt hq⟩⟩, hb⟩
      rcases hq with rfl | hq | ⟨p, hp, hq⟩
      · exact Nat.le_refl _
      · exact hvb q hq
      · rw [nlL_nil hp] at hq
        cases hq
    by_cases hlt : k < out.length
    · have hki : (k : Int) < (out.length : Int) := by omega
      by_cases h8 : (nwL me (out.take k)).length < 8
      · have h8i : decide (((nwL me (out.take k)).length : Int) < 8) = true := decide_eq_true (by omega)
        have h8n : decide ((nwL me (out.take k)).length < 8) = true := decide_eq_true h8
        obtain ⟨x, hx⟩ : ∃ x, out[k]? = some x := ⟨_, List.getElem?_eq_getElem (by omega)⟩
        have hat : ∀ i z, i < 3 → ([.bool x.1, .int .u32 x.2.1, .int .u32 x.2.2] : List Value)[i]? = some z → (RC out)[k * 3 + i]? = some z := fun i z hi hz => (flat_at (fun x : Bool × Int × Int => ([Value.bool x.1, Value.int .u32 x.2.1, Value.int .u32 x.2.2] : List Value)) 3 (by decide) (fun _ => rfl) out k i hi hx).trans hz
        obtain ⟨av', cv', hv, hA'⟩ := row_form hrow
        obtain ⟨rfl, rfl⟩ : av' = av ∧ cv' = cv := by cases hv; exact ⟨rfl, rfl⟩
        clear hv
        obtain ⟨b1, o1, rfl, hj1⟩ := hA' (k * 3 + 0) _ (hat 0 _ (by decide) rfl)
        have d0 := hA'.one rfl (hat 0 _ (by decide) rfl)
        have d1 := hA'.one rfl (hat 1 _ (by decide) rfl)
        have d2 := hA'.one rfl (hat 2 _ (by decide) rfl)
        rw [Nat.add_zero] at d0
        rw [← Nat.add_assoc] at d1 d2
        have hst := nwL_take me hx
        have hxo := fun h => nwR_ok hbd hcmp (List.mem_of_getElem? hx) h
        have hbl := nwL_below me hris hx
        generalize hAe : nwL me (out.take k) = A at hM hvb hst hbl h8 h8i h8n hln hdone hfull hend t1
        clear hAe hdone hfull hend hat hA' hj1 hx
        obtain ⟨xo, xa, xs⟩ := x
        dsimp only at d0 d1 d2 hxo
        have hme : Hid (out.length - (intOf (.int .i64 ((k : Int) + 1))).toNat < out.length - (intOf (.int .i64 (k : Int))).toNat) := by
          show _ < _
          simp [intOf]
          omega
        have hskip : nwP me (xo, xa, xs) = false → Hid (nwL me (out.take (k + 1)) = A) := fun h => by
          show _ = _
          rw [hst]
          exact if_neg (by rw [h]; simp)
        have hstay : Hid (nwL me (out.take (k + 1)) = A) → Hid (∃ (k' : Nat) (v' : Value), k' ≤ out.length ∧ Value.int .i64 ((k : Int) + 1) = .int .i64 k' ∧ RM me w.heap.size v' (nlL (nwL me (out.take k'))) wr ∧ (∀ q, v'.ownBlock = some q → w.heap.size ≤ q) ∧ wr.ownsRow (w.heap.size + 1) 41 3 (.slice (some ⟨b1, o1, none⟩) out.length cv') out.length (RC out) ∧ Below w.heap.size w wr) := fun h => by
          show ∃ k' v', _
          refine ⟨k + 1, .slice vo A.length vc, by omega, by simp, ?_⟩
          rw [h.out]
          exact ⟨hM, hvb, hrow, hb⟩
        cases hp : nwP me (xo, xa, xs)
        · have hs := hstay (hskip hp)
          clear hstay hskip hst hbl hxo hM hvb hrow hb hris hcmp hbd hln h8
          cases xo
          · have hxm : (xa != me) = false := by
              unfold nwP at hp
              simpa using hp
            clear hp
            go_wp2
            exact ⟨hs.out, hme.out⟩
          · clear hp
            go_wp2
            exact ⟨hs.out, hme.out⟩
        · obtain rfl : xo = false := nwP_oth hp
          have hxm : (xa != me) = true := by
            unfold nwP at hp
            simpa using hp
          have hxu := hxo rfl
          have hbx := hbl hp
          have had : nwL me (out.take (k + 1)) = A ++ [nwR (false, xa, xs)] := by
            rw [hst]
            exact if_pos (by rw [hp]; simpa using h8)
          have hwk0 : Hid (wrap64 ((k : Int) + 1) = (k : Int) + 1) := by
            show _ = _
            unfold wrap64
            omega
          have hTo : (Value.slice vo A.length vc).ownBlock ≠ some w.heap.size := hM.rowne
          have hap := rows_apart hrow hM.row (by decide)
          have hk7 : Hid (∀ (o : Obj) (q : Nat) (w7 : World), ((wr.alloc o).drewN q).grownBy w7 (Value.slice vo A.length vc).ownBlock → wr.grownBy w7 (Value.slice vo A.length vc).ownBlock) := fun o q w7 hg => by
            have hbX : Below wr.heap.size wr ((wr.alloc o).drewN q) := below_drewN ((Below.refl _ _).alloc (Nat.le_refl _) _) q
            exact ⟨hg.os.trans hbX.os, hg.tape.trans hbX.tape, hg.output.trans hbX.output, Nat.le_trans hbX.size hg.size, fun i hi hn => (hg.block i (Nat.lt_of_lt_of_le hi hbX.size) hn).trans (hbX.block i hi)⟩
          have hTl := hM.lt (.inl rfl)
          have hT7 : Hid (∀ w7, wr.grownBy w7 (Value.slice vo A.length vc).ownBlock → w7.heap[w.heap.size]? = wr.heap[w.heap.size]?) := fun w7 hg => hg.block _ hTl (fun e => hTo e.symm)
          have hblk := hM.blk
          have hO : Hid (∀ (o : Obj) (q : Nat), ((wr.alloc o).drewN q).ownsRow 0 79 7 (.slice vo A.length vc) A.length (RtC (nlL A))) := fun o q => by
            have h1 := hM.row
            rw [nlL_length] at h1
            exact h1.alloc o
          have hfin : Hid (∀ (w7 : World) (v7 : Value), wr.grownBy w7 (Value.slice vo A.length vc).ownBlock → w7.ownsRow 0 79 7 v7 (A.length + 1) (RtC (nlL A) ++ RtC [(nwR (false, xa, xs), .slice none 0 0)]) → (∀ q, v7.ownBlock = some q → w.heap.size ≤ q) → ∀ q', ∃ (k' : Nat) (v' : Value), k' ≤ out.length ∧ Value.int .i64 ((k : Int) + 1) = .int .i64 k' ∧ RM me w.heap.size v' (nlL (nwL me (out.take k'))) ((w7.setCell ⟨w.heap.size, 1, none⟩ v7).drewN q') ∧ (∀ q, v'.ownBlock = some q → w.heap.size ≤ q) ∧ ((w7.setCell ⟨w.heap.size, 1, none⟩ v7).drewN q').ownsRow (w.heap.size + 1) 41 3 (.slice (some ⟨b1, o1, none⟩) out.length cv') out.length (RC out) ∧ Below w.heap.size w ((w7.setCell ⟨w.heap.size, 1, none⟩ v7).drewN q')) := by
            intro w7 v7 hg ho hl7 q'
            have hB7 := (hT7.out w7 hg).trans hblk
            have hv7T : v7.ownBlock ≠ some w.heap.size := row_not ho hB7 (fun c e => by cases e)
            have hg8 : w7.grownBy (w7.setCell ⟨w.heap.size, 1, none⟩ v7) (some w.heap.size) := grown_cellOf (grown_self _ _) 1 _
            refine ⟨k + 1, v7, by omega, by simp, ?_, hl7, ?_, ?_⟩
            · rw [had]
              refine (RM.snoc (x := nwR (false, xa, xs)) (W' := w7.setCell ⟨w.heap.size, 1, none⟩ v7) hM (by omega) (nwR_rok hxu.1 hxu.2) rfl (fun z hz => hbx z hz) ?_ ?_).draws q'
              · simp [World.setCell, Array.getElem?_modify, hB7]
              · exact row_at ho fun q hq => Below.heap_setCell w7 _ _ q (fun e => hv7T (by rw [hq, e]))
            · refine row_at hrow fun q hq => ?_
              have hql := hrow.lt q hq
              have hne : q ≠ w.heap.size := by omega
              refine (Below.heap_setCell w7 _ _ q hne).trans (hg.block q hql.2 (fun e => ?_))
              rcases hap with e' | e'
              · rw [hq] at e'; cases e'
              · exact e' (by rw [hq, e])
            · exact below_drewN ((hb.grown hg hb.size (fun q e => hvb q e)).grown hg8 (Nat.le_trans hb.size hg.size) (fun q e => by cases e; exact Nat.le_refl _)) q'
          have hk1 : Hid (A.length + 1 ≤ maxLen) := by show _ ≤ _; unfold maxLen; omega
          have hk2 : Hid ((A.length + 1) * 56 ≤ 140737488355328) := by show _ ≤ _; omega
          have hs1 : Hid (∀ (o : Obj) (q : Nat), w.heap.size ≤ ((wr.alloc o).drewN q).heap.size) := fun o q => (below_drewN (hb.alloc hb.size o) q).size
          have hre : ∀ o : Obj, (wr.alloc o).cell? ⟨w.heap.size, 1, none⟩ = some (.slice vo A.length vc) := fun o => cell_later ((Below.refl _ wr).alloc (Nat.le_refl _) o) t1
          have hxs := hxu.2
          have hl7 : Hid (∀ (v7 : Value) (s : Nat), wr.heap.size ≤ s → (v7.ownBlock = (Value.slice vo A.length vc).ownBlock ∨ v7.ownBlock = some s) → ∀ q, v7.ownBlock = some q → w.heap.size ≤ q) := fun v7 s hs h q hq => by
            rcases h with e | e
            · exact hvb q (by rw [← e, hq])
            · rw [hq] at e
              cases e
              exact Nat.le_trans hb.size hs
          clear hstay hskip hst hbl hxo hM hvb hrow hb hris hcmp hbd hln h8 hp hxu hbx had hwk0 hTo hap hTl
          go_wp2_with fail
          go_region_law (first
            | (go_simp; go_at_call 76; refine (rgrown_any _ hxs _).mono ?_; rintro e w5 ⟨rfl, rfl⟩)
            | (refine step_append_at rfl (.tmp 46) (.tmp 59) 91 rfl 0 79 i0 (.agg #[.int .u32 0, .int .u32 0, .int .i64 0, .int .u32 0, .bool false, .int .u64 0, .slice none 0 0]) 7 56 Try.underlying91 hi hz0 hz1 hz2 rfl (by decide) (.slice vo A.length vc) A.length (RtC (nlL A)) (by simp [Act.eval]) (by first | exact hO.out _ 1 | exact hO.out _ 0 | exact hO.out _ _) ⟨wr.heap.size, 0, none⟩ 1 1 (RtC [(nwR (false, xa, xs), .slice none 0 0)]) (by simp [Act.eval]) rfl (cells_rt wr (nwR (false, xa, xs)) (.slice none 0 0)) (one_rt _ none 0 0) hk1.out hk2.out (Nat.zero_le _) ?_; intro v7 w7 ho7 hg7 hloc; obtain ⟨g7, c7, rfl, _⟩ := row_shape' ho7 (Nat.succ_pos _); have hgr : wr.grownBy w7 (Value.slice vo A.length vc).ownBlock := (by first | exact hk7.out _ 1 _ hg7 | exact hk7.out _ 0 _ hg7 | exact hk7.out _ _ _ hg7); have hlo7 := hl7.out _ _ (by first | exact Nat.le_refl _ | (simp; done) | (simp; omega)) hloc; have hB7 := (hT7.out w7 hgr).trans hblk; have hc7 := cell_of_row w7 w.heap.size 1 _ _ _ hB7; have hf7 := frozen_of_row w7 w.heap.size 1 _ _ hB7))
          all_goals
            clear hk7 hT7 hO hk1 hk2 hs1 hre hl7 hg7 hloc d0 d1 d2 t0 t1
            go_wp2
            first
              | exact ⟨hfin.out _ _ hgr ho7 hlo7 0, hme.out⟩
              | exact ⟨hfin.out _ _ hgr ho7 hlo7 1, hme.out⟩
              | exact ⟨hfin.out _ _ hgr ho7 hlo7 _, hme.out⟩
      · have h8i : decide (((nwL me (out.take k)).length : Int) < 8) = false := decide_eq_false (by omega)
        have h8n : decide ((nwL me (out.take k)).length < 8) = false := decide_eq_false h8
        have hd := hdone.out (hfull.out (by omega))
        have hdh := (show Hid _ from hd)
        clear hd hdone hfull hend hM hvb hrow hb hris hcmp hbd hln h8
        go_wp2
        go_ret
        first | exact ⟨_, out, rfl, hdh.out⟩ | exact ⟨_, rfl, out, hdh.out⟩
    · have hd := hdone.out (hend.out (by omega))
      have hdh := (show Hid _ from hd)
      have hki : ¬ (k : Int) < (out.length : Int) := by omega
      clear hd hdone hfull hend hM hvb hrow hb hris hcmp hbd hln
      go_wp2
      go_ret
      first | exact ⟨_, out, rfl, hdh.out⟩ | exact ⟨_, rfl, out, hdh.out⟩
end Go.Proofs.Ytpdjhcfkhblioaa
