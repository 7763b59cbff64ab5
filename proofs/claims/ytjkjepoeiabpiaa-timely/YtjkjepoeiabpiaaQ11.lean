import Derived.Test.YtjkjepoeiabpiaaQ10
import Derived.Laws.OwnMore
namespace Go.Proofs.Ytjkjepoeiabpiaa
open Go.RowKit Go.Maps
open Hp

theorem row_of_block {W W' : World} {base e size n c g : Nat} {xs : List Value} (h : W.ownsRow base e size (.slice (some ⟨g, 0, none⟩) n c) n xs) (he : W'.heap[g]? = W.heap[g]?) : W'.ownsRow base e size (.slice (some ⟨g, 0, none⟩) n c) n xs := by
  refine ⟨h.1, ?_⟩
  rcases h.2 with ⟨hc, _⟩ | ⟨g', cap, cur, hc, k1, k2, k3⟩
  · cases hc
  · cases hc
    exact .inr ⟨g, c, cur, rfl, k1, he.trans k2, k3⟩
theorem row_blk {W : World} {base e size n c g : Nat} {xs : List Value} (h : W.ownsRow base e size (.slice (some ⟨g, 0, none⟩) n c) n xs) : ∃ cur, W.heap[g]? = some (.cells cur e (0, 0)) := by
  rcases h.2 with ⟨hc, _⟩ | ⟨g', cap, cur, hc, k1, k2, k3⟩
  · cases hc
  · cases hc
    exact ⟨cur, k2⟩

theorem info_u64 : (Try.prog.info? 60).map (fun i => (i.zero, i.size, i.bytes)) = some (some (.int .u64 0), 1, 8) := by kernel_rfl
theorem info_bool : (Try.prog.info? 4).map (fun i => (i.zero, i.size, i.bytes)) = some (some (.bool false), 1, 1) := by kernel_rfl

/-- What Timely holds on to. -/
structure Tl (w0 : World) (T M gA cA gG cG N : Nat) (last : Int) (A : List Int) (G : List Bool) (h : List Tm) (v : Value) (W : World) : Prop where
  tr : TR w0.heap.size T M last h v W
  ra : W.ownsRow w0.heap.size 60 1 (.slice (some ⟨gA, 0, none⟩) N cA) N (Us A)
  rg : W.ownsRow w0.heap.size 4 1 (.slice (some ⟨gG, 0, none⟩) N cG) N (Bs G)
  nA : some gA ≠ v.ownBlock
  nG : some gG ≠ v.ownBlock
  bl : Below w0.heap.size w0 W
theorem Tl.apart {w0 : World} {T M gA cA gG cG N : Nat} {last : Int} {A : List Int} {G : List Bool} {h : List Tm} {v : Value} {W : World} (t : Tl w0 T M gA cA gG cG N last A G h v W) :
    (gA ≠ T ∧ gA ≠ M) ∧ (gG ≠ T ∧ gG ≠ M) ∧ gA ≠ gG := by
  obtain ⟨ca, ha⟩ := row_blk t.ra
  obtain ⟨cg, hg⟩ := row_blk t.rg
  have hb := t.tr.blk
  obtain ⟨_, ⟨_, ⟨es, clock, hm, _⟩, _⟩, _⟩ := t.tr.map
  unfold TBk at hb
  refine ⟨⟨?_, ?_⟩, ⟨?_, ?_⟩, ?_⟩
  · rintro rfl; rw [ha] at hb; simp at hb
  · rintro rfl; rw [ha] at hm; cases hm
  · rintro rfl; rw [hg] at hb; simp at hb
  · rintro rfl; rw [hg] at hm; cases hm
  · rintro rfl; rw [ha] at hg; simp at hg
theorem Tl.step {w0 : World} {T M gA cA gG cG N : Nat} {last last' : Int} {A : List Int} {G : List Bool} {h h' : List Tm} {v v' : Value} {W W' : World} (t : Tl w0 T M gA cA gG cG N last A G h v W) (hf : Fr T M v W W') (r : TR w0.heap.size T M last' h' v' W')
    (hv : v'.ownBlock = v.ownBlock ∨ ∀ k, v'.ownBlock = some k → W.heap.size ≤ k) : Tl w0 T M gA cA gG cG N last' A G h' v' W' := by
  obtain ⟨⟨a1, a2⟩, ⟨g1, g2⟩, _⟩ := t.apart
  have la := (t.ra.lt gA rfl).2
  have lg := (t.rg.lt gG rfl).2
  have hne : ∀ k, k < W.heap.size → some k ≠ v.ownBlock → some k ≠ v'.ownBlock := by
    intro k hk h1 h2
    rcases hv with hv | hv
    · rw [hv] at h2; exact h1 h2
    · have := hv k h2.symm; omega
  refine ⟨r, row_of_block t.ra (hf.block gA la a1 a2 t.nA), row_of_block t.rg (hf.block gG lg g1 g2 t.nG), hne _ la t.nA, hne _ lg t.nG, ?_⟩
  exact t.bl.trans (hf.below t.tr.bT t.tr.bM (fun k hk => (t.tr.row.lt k hk).1) t.bl.size)

theorem row_base {W : World} {base base' e size n : Nat} {v : Value} {xs : List Value} (h : W.ownsRow base e size v n xs) (hb : base' ≤ base) : W.ownsRow base' e size v n xs := by
  refine ⟨h.1, ?_⟩
  rcases h.2 with h0 | ⟨g, cap, cur, hc, k1, k2⟩
  · exact .inl h0
  · exact .inr ⟨g, cap, cur, hc, Nat.le_trans hb k1, k2⟩
theorem Tl.atCell {w0 : World} {T M gA cA gG cG N : Nat} {last : Int} {A : List Int} {G : List Bool} {h : List Tm} {v : Value} {W : World} (t : Tl w0 T M gA cA gG cG N last A G h v W) {k : Nat} (hk : k < N) (hA : A.length = N) : W.cell? ⟨gA, k, none⟩ = some (.int .u64 (A.getD k 0)) :=
  (t.ra.cellAt k (by omega)).trans (Us_get (by omega))
theorem Tl.goneCell {w0 : World} {T M gA cA gG cG N : Nat} {last : Int} {A : List Int} {G : List Bool} {h : List Tm} {v : Value} {W : World} (t : Tl w0 T M gA cA gG cG N last A G h v W) {k : Nat} (hk : k < N) {b : Bool} (hG : G[k]? = some b) : W.cell? ⟨gG, k, none⟩ = some (.bool b) :=
  (t.rg.cellAt k (by omega)).trans (by simp [Bs, hG])
theorem Tl.go {w0 : World} {T M gA cA gG cG N : Nat} {last : Int} {A : List Int} {G : List Bool} {h : List Tm} {v : Value} {W : World} (t : Tl w0 T M gA cA gG cG N last A G h v W) (k : Nat) (b : Bool) : Tl w0 T M gA cA gG cG N last A (G.set k b) h v (W.setCell ⟨gG, k, none⟩ (.bool b)) := by
  obtain ⟨_, ⟨g1, g2⟩, h3⟩ := t.apart
  have hg : W.grownBy (W.setCell ⟨gG, k, none⟩ (.bool b)) (some gG) := grown_st (grown_rfl _ _) k _
  refine ⟨t.tr.grown hg (by simpa using g1.symm) (by simpa using g2.symm) (.inr t.nG), row_of_block t.ra (hg.block gA (t.ra.lt gA rfl).2 (by simpa using h3)), ?_, t.nA, t.nG, ?_⟩
  · rw [← Bs_set]
    exact (t.rg.stored k (.bool b)).1
  · exact t.bl.setCell (by have := (t.rg.lt gG rfl).1; exact this) _

set_option maxRecDepth 100000 in
set_option maxHeartbeats 8000000 in
theorem Timely_short (ao co : Option Addr) (n c m d : Nat) (A0 C : List Int) (hA0 : A0.length = n) (hC : C.length = m) (hn : n ≤ 4096) (hm : m ≤ 4096) (hAb : ∀ x ∈ A0, 0 ≤ x ∧ x < 18446744073709551616) (hCb : ∀ x ∈ C, I64 x) (w : World) (hA : HoldsC w ao (Us A0)) (hCc : HoldsC w co (Is C)) :
    Calls Try.prog 9 #[.slice ao n c, .slice co m d] w fun e w' => e = .returned (.bool true) ∧ Below w.heap.size w w' := by
  obtain ⟨i0, hi, hz0, hz1, hz2⟩ := info_parts info_u64
  obtain ⟨i1, ji, jz0, jz1, jz2⟩ := info_parts info_bool
  have e0 : decide (4096 < (n : Int)) = false := decide_eq_false (by omega)
  have e1 : decide (4096 < (m : Int)) = false := decide_eq_false (by omega)
  go_enter Try.func9, Try.ntmps9
  go_wp2_with fail
  refine (NewTimers_any _).mono ?_
  rintro e W1 ⟨rfl, hB1, r1⟩
  have hL1 := hA.below hB1
  have hW2 : Below W1.heap.size W1 (W1.alloc (.cells #[.int .u64 5] 60)) := (Below.refl _ _).alloc (Nat.le_refl _) _
  have hsrc := (hL1.below hW2).src Try.underlying72 (size := 1) (n := n) c (by simp [Us, hA0]) (by decide) (fun u hu => by simp only [Us, List.mem_map] at hu; obtain ⟨y, _, rfl⟩ := hu; rfl)
  have ho0 : (W1.alloc (.cells #[.int .u64 5] 60)).ownsRow W1.heap.size 60 1 (.slice (some ⟨W1.heap.size, 0, none⟩) 1 1) 1 (Us [5]) :=
    ⟨rfl, .inr ⟨W1.heap.size, 1, _, rfl, Nat.le_refl _, heap_alloc_new W1 _, Nat.le_refl _, by decide, rfl, rfl⟩⟩
  go_wp2_with (at_builtin; refine wpList_append_own_src _ rfl _ _ 72 72 rfl W1.heap.size 60 i0 (.int .u64 0) 1 8 Try.underlying72 hi hz0 hz1 hz2 rfl (.slice (some ⟨W1.heap.size, 0, none⟩) 1 1) 1 (Us [5]) rfl ho0 (by simp) _ n (Us A0) rfl hsrc ?c1 ?c2 ?c3 ?_)
  case c1 => unfold maxLen; omega
  case c2 => omega
  case c3 => simp
  intro v2 W2 ho2 hg2 hv2
  have hB2 : Below W1.heap.size W1 W2 := hW2.grown hg2 (by simp) (fun k hk => by simp [Value.ownBlock] at hk; omega)
  have r2 := r1.later hB2
  have hAn : Hid ((5 :: A0).length = n + 1) := by
    show _ = _
    rw [List.length_cons, hA0]
  have hAb' : ∀ x ∈ (5 :: A0 : List Int), 0 ≤ x ∧ x < 18446744073709551616 := by
    intro x hx
    rcases List.mem_cons.1 hx with rfl | hx
    · omega
    · exact hAb x hx
  have ho2' : W2.ownsRow W1.heap.size 60 1 v2 (n + 1) (Us (5 :: A0)) := by
    rw [Nat.add_comm] at ho2
    exact ho2
  generalize (5 :: A0 : List Int) = A at hAn hAb' ho2'
  obtain ⟨gA, cA, rfl, hgA⟩ := row_shape' ho2' (Nat.succ_pos n)
  have hBw := hB1.trans (hB2.mono hB1.size)
  have hC2 := (hCc.below hB1).below hB2
  clear ho2 hg2 hv2 hsrc ho0 hW2 hL1 hB2 r1 hi hz0 hz1 hz2 hA hA0 hAb
  go_wp2_with (at_make; refine wpList_make_full _ rfl _ _ 74 rfl W2.heap.size 4 i1 (.bool false) 1 Try.underlying74 ji jz0 jz1 .i64 .i64 ((n : Int) + 1) ((n : Int) + 1) (n + 1) rfl rfl (by omega) (by omega) ?c1 ?c2 ?c3 ?_)
  case c1 => rw [jz2]; omega
  case c2 => unfold maxLen; omega
  case c3 => exact Nat.le_refl _
  intro W3 hog hg3
  have hb3 : Below W2.heap.size W2 W3 := ⟨hg3.os, hg3.tape, hg3.output, hg3.size, fun k hk => hg3.block k hk (by simp)⟩
  rw [toList_madeCells_one] at hog
  have hT0 : Tl w (w.heap.size + 1) w.heap.size gA cA W2.heap.size (n + 1) (n + 1) 0 A (List.replicate (n + 1) false) [] (.slice none 0 0) W3 :=
    ⟨r2.later hb3, row_base (step_append_kept ho2' hb3) hB1.size, row_base (by simpa [Bs] using hog) hBw.size, by simp [Value.ownBlock], by simp [Value.ownBlock], hBw.trans (hb3.mono hBw.size)⟩
  have hk0 := Kp.start (A := A) (h := tmsOf A A.length) (List.Perm.refl _)
  rw [hAn.out] at hk0
  have hW0 : w.heap.size ≤ W3.heap.size := hT0.bl.size
  clear hb3 hog hg3 r2 ho2' hBw hC2 hB1 hgA ji jz0 jz1 jz2
  generalize w.heap.size + 1 = T at hT0
  generalize W2.heap.size = gG at hT0
  generalize hMM : w.heap.size = M at hT0
  have hMM' := (show Hid _ from hMM)
  clear hMM
  go_wp2_with fail
  go_loopw [7] (fun i wr => ∃ (k : Nat) (h : List Tm) (v : Value), k ≤ n + 1 ∧ i = .int .i64 k ∧ Tl w T M gA cA gG (n + 1) (n + 1) (k : Int) A (List.replicate (n + 1) false) h v wr ∧ Heap h ∧ h.Perm (tmsOf A k)) (fun i _ => n + 1 - (intOf i).toNat)
  case atStart => exact ⟨0, [], _, Nat.zero_le _, rfl, hT0, fun j h1 h2 => by simp at h2, List.Perm.refl _⟩
  case round =>
    clear hT0
    obtain ⟨k, h, v, hk, rfl, t, hH, hp⟩ := hrel
    have hhl : h.length = k := by rw [hp.length_eq, tmsOf_length]
    have hhl' := (show Hid _ from hhl)
    by_cases hlt : k < n + 1
    · have hcell := t.atCell hlt hAn.out
      have hab : 0 ≤ A.getD k 0 ∧ A.getD k 0 < 18446744073709551616 := by
        have hkA : k < A.length := by rw [hAn.out]; exact hlt
        have := hAb' _ (List.getElem_mem hkA)
        simpa [List.getD, List.getElem?_eq_getElem hkA] using this
      have hk64 : I64 ((k : Nat) : Int) := by unfold I64; omega
      have hid : ∀ x ∈ h, x.2.1 ≤ (k : Int) := by
        intro x hx
        obtain ⟨j, hj, rfl⟩ := tmsOf_id (hp.mem_iff.1 hx)
        simp only [trA]
        omega
      have hadd := Add_any w.heap.size T M k h v wr t.tr (by omega) hH (by omega) (by omega) hid (A.getD k 0) k hab hk64 t.bl.size
      have hst : Hid (tmsOf A (k + 1) = tmsOf A k ++ [(A.getD k 0, (k : Int) + 1, (k : Int))]) := tmsOf_succ A k
      generalize A.getD k 0 = a at hcell hadd hst
      clear hab hid hhl
      go_wp2_with fail
      refine hadd.mono ?_
      rintro e W4 ⟨rfl, h4, v4, r4, hF4, hv4, hp4, hH4⟩
      have t4 := t.step hF4 r4 hv4
      have hp5 : h4.Perm (tmsOf A (k + 1)) := by
        rw [hst.out]
        exact hp4.trans (hp.append_right _)
      clear hcell hadd t hp hp4 r4 hF4 hv4
      go_wp2
      go_roundw
      case rel => exact ⟨k + 1, h4, v4, by omega, by go_num, t4, hH4, hp5⟩
      case measure => simp [intOf]; omega
    · obtain rfl : k = n + 1 := by omega
      have hk1 : Kp A (List.replicate (n + 1) false) h := by
        have := Kp.start (A := A) (h := h) (by rw [hAn.out]; exact hp)
        rw [hAn.out] at this
        exact this
      obtain ⟨last, hlast⟩ : ∃ last : Int, last = ((n + 1 : Nat) : Int) := ⟨_, rfl⟩
      rw [← hlast] at t
      clear hlast
      generalize List.replicate (n + 1) false = G0 at t hk1
      have hl1 : Hid ((n : Int) + 1 = (h.length : Nat)) := by show _ = _; omega
      clear hlt hk hk0 hp hhl
      go_wp2_with fail
      go_loopw [9, 10] (fun lv jv wr => ∃ (j : Nat) (G : List Bool) (h : List Tm) (v : Value), j ≤ m ∧ jv = .int .i64 j ∧ lv = .int .i64 (h.length : Nat) ∧ h.length ≤ n + 1 ∧ Tl w T M gA cA gG (n + 1) (n + 1) last A G h v wr ∧ Heap h ∧ Kp A G h) (fun _ jv _ => m - (intOf jv).toNat)
      case atStart => exact ⟨0, G0, h, v, Nat.zero_le _, rfl, by rw [hl1.out], by rw [hhl'.out]; exact Nat.le_refl _, t, hH, hk1⟩
      case round =>
        clear t hH hk1
        obtain ⟨j, G, h, v, hj, rfl, rfl, hln, t, hH, hk⟩ := hrel
        by_cases hlt : j < m
        · have hcb := hCb _ (List.getElem_mem (show j < C.length by omega))
          obtain ⟨b, o, rfl, _, hcj⟩ := (hCc.below t.bl) j _ (Is_get (by omega))
          have hcg : C.getD j 0 = C[j]'(by omega) := by simp [List.getD, List.getElem?_eq_getElem (show j < C.length by omega)]
          rw [hcg] at hcj
          have hpk := pick_any (C[j]'(by omega)) ((n : Int) + 1) hcb.1 hcb.2 (by omega) (by omega)
          obtain ⟨p0, p1⟩ := pickI_b (C[j]'(by omega)) ((n : Int) + 1) (by omega)
          generalize C[j]'(by omega) = cj at hcj hpk p0 p1
          generalize pickI cj ((n : Int) + 1) = kI at hpk p0 p1
          obtain ⟨K, rfl⟩ := Int.eq_ofNat_of_zero_le p0
          have hK : K < n + 1 := by omega
          have hKi : (K : Int) < (n : Int) + 1 := by omega
          obtain ⟨bb, hG, hbb⟩ := hk.get (i := K) (by rw [hAn.out]; exact hK)
          have hgc := t.goneCell hK hG
          have hlen' : h.length ≤ 1000000 := by omega
          have hcan := fun w' (r' : TR w.heap.size T M last h v w') => Cancel_any w.heap.size T M last h v w' r' hlen' hH ((K : Int) + 1) (by unfold I64; omega)
          clear p0 p1 hcg hcb
          go_wp2_with fail
          refine (hpk _).mono ?_
          rintro e W4 ⟨rfl, rfl⟩
          go_wp2_with fail
          refine (hcan _ t.tr).mono ?_
          rintro e W5 ⟨h5, v5, r5, hF5, hv5, hH5, hcase⟩
          have t5 := t.step hF5 r5 (.inl hv5)
          have hgf := t5.rg.frozenAt K
          clear hF5 r5 hv5 hcan hpk hgc hcj
          rcases hcase with ⟨x, hxk, rfl, hp5⟩ | ⟨hno, rfl, rfl⟩
          · obtain ⟨i, hi, rfl, _⟩ := hk.sub x (hp5.mem_iff.1 (by simp))
            have hiK : i = K := by simp only [trA] at hxk; omega
            subst hiK
            obtain ⟨hGf, _, hk5⟩ := hk.take hp5
            have hl5 : h5.length + 1 = h.length := by
              have := hp5.length_eq
              simpa using this
            have hl5' : Hid (((h.length : Nat) : Int) - 1 = ((h5.length : Nat) : Int)) := by show _ = _; omega
            have hl5le : h5.length ≤ n + 1 := by omega
            have hgc := t5.goneCell hK hGf
            have t6 := t5.go i true
            clear hl5 t t5 hbb hG hGf hxk hp5 hH hk
            go_wp2
            go_roundw
            case rel =>
              (repeat apply Exists.intro)
              refine ⟨?_, rfl⟩
              exact ⟨j + 1, _, h5, v5, by omega, by go_num, by rw [hl5'.out], hl5le, t6, hH5, hk5⟩
            case measure => simp [intOf]; omega
          · have hbt : bb = true := hbb.2 (fun hm => hno _ hm rfl)
            rw [hbt] at hG
            have hgc := t5.goneCell hK hG
            clear t hbb hno hbt hgf
            go_wp2
            go_roundw
            case rel =>
              (repeat apply Exists.intro)
              refine ⟨?_, rfl⟩
              exact ⟨j + 1, G, h5, v5, by omega, by go_num, rfl, hln, t5, hH5, hk⟩
            case measure => simp [intOf]; omega
        · obtain rfl : j = m := by omega
          have hlenc := fun w' (r' : TR w.heap.size T M last h v w') => Len_any w.heap.size T M last h v w' r'
          clear hlt hj
          go_wp2_with fail
          refine (hlenc _ t.tr).mono ?_
          rintro e W4 ⟨rfl, rfl⟩
          clear hlenc
          go_wp2_with fail
          have hl0 : ∀ x ∈ h, (0 : Int) ≤ x.1 := fun x hx => (t.tr.ok x hx).1.1
          go_loopw [9, 13, 14] (fun lv sv nv wr => ∃ (G : List Bool) (h : List Tm) (v : Value) (l : Int), lv = .int .i64 (h.length : Nat) ∧ nv = .int .i64 (h.length : Nat) ∧ sv = .int .u64 l ∧ (∀ x ∈ h, l ≤ x.1) ∧ h.length ≤ n + 1 ∧ Tl w T M gA cA gG (n + 1) (n + 1) last A G h v wr ∧ Heap h ∧ Kp A G h) (fun _ _ nv _ => (intOf nv).toNat)
          case atStart => exact ⟨G, h, v, 0, rfl, rfl, rfl, hl0, hln, t, hH, hk⟩
          case round =>
            clear t hH hk hl0 hln
            obtain ⟨G, h, v, l, rfl, rfl, rfl, hl, hln, t, hH, hk⟩ := hrel
            have hnx := fun w' (r' : TR w.heap.size T M last h v w') => Next_any w.heap.size T M last h v w' r' (by omega) hH 18446744073709551615 (by omega) (by omega)
            by_cases hpos : 0 < h.length
            · have hdp : decide ((0 : Int) < (h.length : Nat)) = true := decide_eq_true (by omega)
              have hdp' : decide (0 < h.length) = true := decide_eq_true hpos
              have hx0 : at' h 0 ∈ h := List.mem_of_getElem? (at_get hpos)
              have hok0 := t.tr.ok _ hx0
              go_wp2_with fail
              refine (hnx _ t.tr).mono ?_
              rintro e W4 ⟨h4, v4, r4, hF4, hv4, hH4, ⟨_, _, rfl, hp4⟩ | ⟨hbad, _⟩⟩
              rotate_left
              · exfalso
                rcases hbad with hbad | hbad
                · omega
                · have := hok0.1.2; omega
              have t4 := t.step hF4 r4 (.inl hv4)
              obtain ⟨i, hi, hxi, hGi⟩ := hk.sub _ hx0
              have hleast : ∀ y ∈ h4, (at' h 0).1 ≤ y.1 := by
                intro y hy
                have hym : y ∈ h := hp4.mem_iff.1 (by simp [hy])
                obtain ⟨q, hq, rfl⟩ := List.mem_iff_getElem.1 hym
                have := hH.least q hq
                rw [show at' h q = h[q] by simp [at', List.getD, List.getElem?_eq_getElem hq], Le.iff] at this
                omega
              have hl0 := hl _ hx0
              rw [hxi] at hp4 hleast hl0 ⊢
              obtain ⟨_, _, hk4⟩ := hk.take hp4
              have hin : i < n + 1 := by have := hAn.out; omega
              have hcA := t4.atCell hin hAn.out
              have hcG := t4.goneCell hin hGi
              have hgf := t4.rg.frozenAt i
              have hl4 : h4.length + 1 = h.length := by
                have := hp4.length_eq
                simpa using this
              have hl4' : Hid (((h.length : Nat) : Int) - 1 = ((h4.length : Nat) : Int)) := by show _ = _; omega
              have hl4le : h4.length ≤ n + 1 := by omega
              have t6 := t4.go i true
              dsimp only [trA] at hleast hl0 ⊢
              have hii : (i : Int) < (n : Int) + 1 := by omega
              have hi0 : (0 : Int) ≤ (i : Int) := by omega
              have hd1 : decide ((i : Int) < 0) = false := decide_eq_false (by omega)
              have hd2 : decide ((n : Int) + 1 ≤ (i : Int)) = false := decide_eq_false (by omega)
              generalize A.getD i 0 = a at hcA hleast hl0
              have hd3 : decide (a < l) = false := decide_eq_false (by omega)
              have hAG : ¬ gA = gG := t4.apart.2.2
              have hGA : ¬ gG = gA := fun e => t4.apart.2.2 e.symm
              have hmes : Hid (h4.length < h.length) := by show _ < _; omega
              clear hnx t t4 hF4 r4 hv4 hp4 hxi hGi hH hk hl hl0 hl4 hok0 hx0 hpos hi
              go_wp2
              go_roundw
              case rel =>
                first
                  | exact ⟨G.set i true, h4, v4, a, by rw [hl4'.out], by rw [hl4'.out], rfl, hleast, hl4le, t6, hH4, hk4⟩
                  | ((repeat apply Exists.intro); refine ⟨?_, rfl⟩; exact ⟨G.set i true, h4, v4, a, by rw [hl4'.out], by rw [hl4'.out], rfl, hleast, hl4le, t6, hH4, hk4⟩)
              case measure =>
                have := hmes.out
                simp [intOf]; omega
            · have hdp : decide ((0 : Int) < (h.length : Nat)) = false := decide_eq_false (by omega)
              have hdp' : decide (0 < h.length) = false := decide_eq_false hpos
              have hz : (((h.length : Nat) : Int) == 0) = true := by rw [beq_iff_eq]; omega
              have hz' : h.length = 0 := by omega
              have hz'' := (show Hid _ from hz')
              clear hz'
              go_wp2_with fail
              refine (hnx _ t.tr).mono ?_
              rintro e W4 ⟨h4, v4, r4, hF4, hv4, hH4, ⟨hbad, _⟩ | ⟨_, rfl, rfl⟩⟩
              · exact absurd hbad hpos
              have t4 := t.step hF4 r4 (.inl hv4)
              have hbl := t4.bl
              clear hnx t t4 hF4 r4 hv4 hH4 hH hk hl hln hpos
              go_wp2
              go_ret
              exact ⟨rfl, hbl⟩
end Go.Proofs.Ytjkjepoeiabpiaa
