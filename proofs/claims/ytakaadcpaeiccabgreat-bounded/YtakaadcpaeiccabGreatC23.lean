import Derived.Test.YtakaadcpaeiccabGreatC22
import Derived.Test.YtakaadcpaeiccabGreatC16
import Derived.Test.YtakaadcpaeiccabGreatC20
import Derived.Test.YtakaadcpaeiccabGreatC18
namespace Go.Proofs.YtakaadcpaeiccabGreat
open Go.RowKit Go.Maps
open Hp

theorem row_take {W : World} {base e size n cap g : Nat} {xs : List Value} (h : W.ownsRow base e size (.slice (some ⟨g, 0, none⟩) n cap) n xs) {m : Nat} (hm : m ≤ n) :
    W.ownsRow base e size (.slice (some ⟨g, 0, none⟩) m cap) m (xs.take (m * size)) := by
  have h1 := h.1
  rcases h.2 with ⟨he, _⟩ | ⟨g', cap', cur, he, k1, k2, k3, k4, k5, k6⟩
  · cases he
  · cases he
    have hle : m * size ≤ n * size := Nat.mul_le_mul_right _ hm
    refine ⟨by rw [List.length_take, h1]; omega, .inr ⟨g, cap, cur, rfl, k1, k2, by omega, k4, k5, ?_⟩⟩
    rw [← k6, List.take_take, Nat.min_eq_left hle]
theorem TBk.set {T M : Nat} {last : Int} {v : Value} {W : World} (h : TBk T M last v W) (v' : Value) : TBk T M last v' (W.setCell ⟨T, 0, none⟩ v') := by
  unfold TBk at h ⊢
  simp [World.setCell, Array.getElem?_modify, h]
/-- A block that is a timer's box. -/
def TmBk (B : Nat) (x : Tm) (W : World) : Prop := W.heap[B]? = some (tmBox x)
theorem TmBk.cell {B : Nat} {x : Tm} {W : World} (h : TmBk B x W) :
    W.cell? ⟨B, 0, none⟩ = some (.int .u64 x.1) ∧ W.cell? ⟨B, 1, none⟩ = some (.int .i64 x.2.1) ∧ W.cell? ⟨B, 2, none⟩ = some (.int .i64 x.2.2) :=
  ⟨cell_of_row W B 0 _ _ _ h, cell_of_row W B 1 _ _ _ h, cell_of_row W B 2 _ _ _ h⟩
theorem TmBk.free {B : Nat} {x : Tm} {W : World} (h : TmBk B x W) (i : Nat) : W.frozen? ⟨B, i, none⟩ = false := by
  unfold TmBk at h
  simp [World.frozen?, h]
theorem TmBk.lt {B : Nat} {x : Tm} {W : World} (h : TmBk B x W) : B < W.heap.size := (Array.getElem?_eq_some_iff.1 h).1
theorem TmBk.new (x : Tm) (W : World) : TmBk W.heap.size x (W.alloc (tmBox x)) := heap_alloc_new W _
theorem TmBk.fr {B : Nat} {x : Tm} {W W' : World} {T M : Nat} {v : Value} (h : TmBk B x W) (hf : Fr T M v W W') (h1 : B ≠ T) (h2 : B ≠ M) (h3 : some B ≠ v.ownBlock) : TmBk B x W' := (hf.block B h.lt h1 h2 h3).trans h
theorem TmBk.later {B : Nat} {x : Tm} {W W' : World} (h : TmBk B x W) (hb : Below W.heap.size W W') : TmBk B x W' := (hb.block B h.lt).trans h
theorem TmBk.grown {B : Nat} {x : Tm} {W W' : World} {r : Option Nat} (h : TmBk B x W) (hg : W.grownBy W' r) (hr : some B ≠ r) : TmBk B x W' := (hg.block B h.lt hr).trans h
@[reducible] def storeT (W : World) (B : Nat) (x : Tm) : World := ((W.setCell ⟨B, 0, none⟩ (.int .u64 x.1)).setCell ⟨B, 1, none⟩ (.int .i64 x.2.1)).setCell ⟨B, 2, none⟩ (.int .i64 x.2.2)
theorem TmBk.store {B : Nat} {x : Tm} {W : World} (h : TmBk B x W) (y : Tm) : TmBk B y (storeT W B y) := by
  unfold TmBk at h ⊢
  simp [World.setCell, Array.getElem?_modify, h]
theorem grown_storeT (W : World) (B : Nat) (y : Tm) : W.grownBy (storeT W B y) (some B) := grown_st (grown_st (grown_st (grown_rfl W (some B)) 0 _) 1 _) 2 _
theorem TR.grown {base T M : Nat} {last : Int} {h : List Tm} {v : Value} {W W' : World} {r : Option Nat} (q : TR base T M last h v W) (hg : W.grownBy W' r) (h1 : some T ≠ r) (h2 : some M ≠ r) (h3 : r = none ∨ r ≠ v.ownBlock) : TR base T M last h v W' := by
  obtain ⟨f, hm, hp⟩ := q.map
  have h4 : v.ownBlock = none ∨ v.ownBlock ≠ r := by
    rcases h3 with rfl | h3
    · cases v.ownBlock <;> simp
    · exact .inr (Ne.symm h3)
  exact ⟨q.blk.kept hg h1, q.row.kept hg h4, ⟨f, hm.kept hg h2, hp⟩, q.ok, q.bT, q.bM⟩

theorem TC_take : ∀ (h : List Tm) (m : Nat), TC (h.take m) = (TC h).take (m * 3)
  | [], m => by simp [TC]
  | a :: h, 0 => by simp [TC]
  | a :: h, m + 1 => by
    have ih := TC_take h m
    simp only [TC, List.take_succ_cons, List.flatMap_cons] at ih ⊢
    rw [ih]
    simp [tmC, show (m + 1) * 3 = m * 3 + 1 + 1 + 1 by omega]
theorem slice_toT (g n c k : Nat) (hk : k ≤ c) (W : World) : (Instr.slice 163 (.slice (some ⟨g, 0, none⟩) n c) none (some (.int .i64 k)) none).run Tryz.prog W = .ok (.slice (some ⟨g, 0, none⟩) k c) W := by
  have ht : Tryz.prog.underlying 163 = some (.slice (Tryz.prog.elem 163)) := by simp [Program.elem, Tryz.underlying163]
  have hz : ∀ w, (Go.sizeOf (Tryz.prog.elem 163)).run Tryz.prog w = .ok 3 w := by
    intro w
    simp [go_sem, Program.elem, Tryz.underlying163]
  rw [run_slice_h W 163 _ _ _ ht .i64 _ (by omega) (by omega), hz]
  simp only [Result.andThen, sliced]
  rw [Nat.sub_zero, Nat.sub_zero, Int.toNat_natCast]
  split <;> simp [Addr.add]

set_option maxRecDepth 100000 in
set_option maxHeartbeats 4000000 in
theorem remove_any (base T M : Nat) (last : Int) (h : List Tm) (v : Value) (w : World) (r : TR base T M last h v w) (i : Nat) (hi : i < h.length) (hn : h.length ≤ 1000000) (hb : Heap h) :
    Calls Tryz.prog 149 #[.pointer (some ⟨T, 0, none⟩), .int .i64 i] w fun e w' => e = .returned (tmV (at' h i)) ∧ ∃ h' v', TR base T M last h' v' w' ∧ Fr T M v w w' ∧ v'.ownBlock = v.ownBlock ∧ (at' h i :: h').Perm h ∧ Heap h' := by
  obtain ⟨g, cap, rfl, hg⟩ := r.shape (by omega)
  have hT := r.blk.lt
  have hM : M < w.heap.size := by
    obtain ⟨_, hm0, _⟩ := r.map
    exact hm0.lt
  have hgl := (r.row.lt g rfl).2
  have hb1 : Below w.heap.size w (w.alloc (tmBox z)) := (Below.refl _ _).alloc (Nat.le_refl _) _
  have r1 := r.later hb1
  have hR := TmBk.new z w
  have hF1 := (Fr.refl T M (.slice (some ⟨g, 0, none⟩) h.length cap) w).later hb1
  have cT := r1.blk.cell.1
  have hlen : (1 : Int) ≤ (h.length : Int) := by omega
  have hap := r.apart
  have hidx := ok_id r hi
  have hTg : ¬ T = g := fun e => hap.2.1 (by rw [e]; rfl)
  have hMg : ¬ M = g := fun e => hap.2.2 (by rw [e]; rfl)
  have hq : (h.length : Int) - 1 = ((h.length - 1 : Nat) : Int) := by omega
  generalize hE : h.length - 1 = E at hq
  have hE' := (show Hid _ from hE)
  generalize hRR : w.heap.size = R at hR hT hM hgl
  have hRR' := (show Hid _ from hRR)
  dsimp only [tmBox, z] at hb1 r1 hR hF1 cT
  clear hE hRR r hb1
  go_enter Tryz.func149, Tryz.ntmps149
  go_wp2_with fail
  rw [hRR'.out]
  generalize World.alloc _ _ = W1 at r1 hR hF1 cT ⊢
  refine (swap_any base T M last h _ _ r1 i E hi (by have := hE'.out; omega) hn).mono ?_
  rintro e W2 ⟨rfl, r2, hF12⟩
  have hEl : E < h.length := by have := hE'.out; omega
  have hEl2 : E < (sw h i E).length := by rw [sw_length]; exact hEl
  have hxE : at' (sw h i E) E = at' h i := by rw [at_sw hi hEl, if_pos rfl]
  have hTC := TC_at hEl2
  rw [hxE] at hTC
  have hTl := TC_length (sw h i E)
  have hsl2 : (sw h i E).length = h.length := sw_length _ _ _
  have hF2 := hF1.trans hF12 (.inl rfl)
  have hRa : R ≠ T ∧ R ≠ M ∧ R ≠ g := ⟨by omega, by omega, by omega⟩
  have hR2 := hR.fr hF12 hRa.1 hRa.2.1 (by simp only [Value.ownBlock]; intro e; cases e; exact hRa.2.2 rfl)
  have hrow2 := r2.row
  rw [hsl2] at hrow2
  have b3 : E * 3 + 2 < h.length * 3 := by omega
  have d0 := (hrow2.cellAt (E * 3) (Nat.lt_of_le_of_lt (by omega) b3)).trans hTC.1
  have d1 := (hrow2.cellAt (E * 3 + 1) (Nat.lt_of_le_of_lt (by omega) b3)).trans hTC.2.1
  have d2 := (hrow2.cellAt (E * 3 + 2) b3).trans hTC.2.2
  have c0 := r2.blk.cell.1
  have hEi : (E : Int) < (h.length : Int) := by omega
  have hbn : Below W2.heap.size W2 (W2.alloc (tmBox (at' h i))) := (Below.refl _ _).alloc (Nat.le_refl _) _
  have r3 := r2.later hbn
  have hR3 := hR2.later hbn
  have hF3 := hF2.later hbn
  have hG3 := TmBk.new (at' h i) W2
  have hG0 : R < W2.heap.size := hR2.lt
  have hTW : T < W2.heap.size := by omega
  have hMW : M < W2.heap.size := by omega
  have hgW : g < W2.heap.size := by omega
  have hcapE : E ≤ cap := by
    rcases hrow2.2 with ⟨he, _⟩ | ⟨_, _, _, he, _, _, k3, _⟩
    · cases he
    · cases he; omega
  have hsl := slice_toT g h.length cap E hcapE
  clear b3 hrow2 r1 hR hF1 hF12 r2 hR2 hF2 hTC hTl hbn cT
  generalize hGG : W2.heap.size = G at hG3 hG0 hTW hMW hgW
  have hGG' := (show Hid _ from hGG)
  clear hGG
  have cG := hG3.cell
  have b0 := r3.blk.cell.1
  have fT := r3.blk.free 0
  have hg34 : (W2.alloc (tmBox (at' h i))).grownBy ((W2.alloc (tmBox (at' h i))).setCell ⟨T, 0, none⟩ (.slice (some ⟨g, 0, none⟩) E cap)) (some T) := grown_st (grown_rfl _ _) 0 _
  have hB4 := r3.blk.set (.slice (some ⟨g, 0, none⟩) E cap)
  have hrow3 := r3.row
  rw [hsl2] at hrow3
  have hrow4 := (row_take hrow3 (Nat.le_of_lt hEl)).kept hg34 (.inr (by simp [Value.ownBlock]; exact fun e => hTg e.symm))
  rw [← TC_take] at hrow4
  have hout : (sw h i E).take E = out h i := by unfold out; rw [hE'.out]
  rw [hout] at hrow4
  obtain ⟨f, hm3, hp3⟩ := r3.map
  rw [hsl2] at hm3
  have hm4 := hm3.kept hg34 (by simpa using hap.1.symm)
  have hfE := hp3.1 E _ (at_get hEl2)
  rw [hxE] at hfE
  have hp5 := hp3.cut (n := E) (by rw [hsl2]; have := hE'.out; omega)
  rw [hout, hxE] at hp5
  have hok5 : ∀ y ∈ out h i, TOk y := fun y hy => r3.ok y (by rw [← hout] at hy; exact List.mem_of_mem_take hy)
  have hR4 := hR3.grown hg34 (by simpa using hRa.1)
  have hG4 := hG3.grown hg34 (by simp; omega)
  have hF4 := hF3.trans (Fr.grown (T := T) (M := M) (v := .slice (some ⟨g, 0, none⟩) h.length cap) hg34 (.inr (.inl rfl))) (.inl rfl)
  have hbT := r3.bT
  have hbM := r3.bM
  have hperm := out_perm hi
  have hol : (out h i).length = E := by rw [out_length]; exact hE'.out
  clear hg34 r3 hR3 hG3 hF3 hrow3 hm3 hp3
  dsimp only [tmBox] at hB4 hrow4 hm4 hR4 hG4 hF4 b0 fT cG
  go_wp2_with fail
  clear d0 d1 d2 c0 cG b0 fT hsl
  rw [hGG'.out]
  generalize World.setCell _ _ _ = W4 at hB4 hrow4 hm4 hR4 hG4 hF4 ⊢
  obtain ⟨_, b1, _⟩ := hB4.cell
  obtain ⟨_, g1, _⟩ := hG4.cell
  obtain ⟨W5, hr5, hm5, hg5⟩ := (show MapI W4.drew M f h.length from hm4).del hidx 0 (by rw [hfE]; rfl)
  go_region
  clear g1 b1
  have hg5' : W4.grownBy W5 (some M) := ⟨hg5.os, hg5.tape, hg5.output, hg5.size, hg5.block⟩
  rw [hE'.out] at hm5
  have r5 : TR base T M last (out h i) (.slice (some ⟨g, 0, none⟩) E cap) W5 := by
    refine ⟨hB4.kept hg5' (by simpa using hap.1), ?_, ⟨_, ?_, hp5⟩, hok5, hbT, hbM⟩
    · rw [hol]
      exact hrow4.kept hg5' (.inr (by simp [Value.ownBlock]; exact fun e => hMg e.symm))
    · rw [hol]
      exact hm5
  have hR5 := hR4.grown hg5' (by simpa using hRa.2.1)
  have hG5 := hG4.grown hg5' (by simp; omega)
  have hF5 := hF4.trans (Fr.grown (T := T) (M := M) (v := .slice (some ⟨g, 0, none⟩) h.length cap) hg5' (.inr (.inr (.inl rfl)))) (.inl rfl)
  have hfin : ∀ (h7 : List Tm) (W7 : World), TR base T M last h7 (.slice (some ⟨g, 0, none⟩) E cap) W7 → TmBk R z W7 → Fr T M (.slice (some ⟨g, 0, none⟩) h.length cap) w W7 → h7.Perm (out h i) → Heap h7 →
      TmBk R (at' h i) (storeT W7 R (at' h i)) ∧ ∃ h' v', TR base T M last h' v' (storeT W7 R (at' h i)) ∧ Fr T M (.slice (some ⟨g, 0, none⟩) h.length cap) w (storeT W7 R (at' h i)) ∧ v'.ownBlock = (Value.slice (some ⟨g, 0, none⟩) h.length cap).ownBlock ∧ (at' h i :: h').Perm h ∧ Heap h' := by
    intro h7 W7 r7 hR7 hF7 hp7 hH7
    have hgs := grown_storeT W7 R (at' h i)
    refine ⟨hR7.store _, h7, _, r7.grown hgs (by simp; omega) (by simp; omega) (.inr (by simp [Value.ownBlock]; omega)), ?_, rfl, (hp7.cons _).trans hperm, hH7⟩
    refine ⟨hgs.os.trans hF7.os, hgs.tape.trans hF7.tape, hgs.output.trans hF7.output, Nat.le_trans hF7.size hgs.size, fun k hk h1 h2 h3 => ?_⟩
    rw [hgs.block k (Nat.lt_of_lt_of_le hk hF7.size) (by rw [hRR'.out] at hk; simp; omega)]
    exact hF7.block k hk h1 h2 h3
  clear hB4 hrow4 hm4 hR4 hG4 hF4 hm5 hr5 hg5 hg5' hp5 hok5 hperm
  by_cases hiE : i < E
  · have hdi : decide (i < E) = true := decide_eq_true hiE
    have hBo := out_both hb (show i < h.length - 1 by rw [hE'.out]; exact hiE)
    go_wp2_with fail
    refine (rise_any base T M last (out h i) _ _ r5 i (by rw [hol]; exact hiE) (by omega) hBo).mono ?_
    rintro e W6 ⟨rfl, h6, r6, hF56, hp6, hD6⟩
    have hl6 : h6.length = E := by rw [hp6.length_eq]; exact hol
    have hR6 := hR5.fr hF56 hRa.1 hRa.2.1 (by simp only [Value.ownBlock]; intro e; cases e; exact hRa.2.2 rfl)
    have hG6 := hG5.fr hF56 (by omega) (by omega) (by simp only [Value.ownBlock]; intro e; cases e; omega)
    have hF6 := hF5.trans hF56 (.inl rfl)
    clear r5 hR5 hG5 hF5 hF56
    go_wp2_with fail
    refine (sink_any base T M last h6 _ _ r6 i (by omega) (by omega) hD6).mono ?_
    rintro e W7 ⟨rfl, h7, r7, hF67, hp7, hH7⟩
    have hR7 := hR6.fr hF67 hRa.1 hRa.2.1 (by simp only [Value.ownBlock]; intro e; cases e; exact hRa.2.2 rfl)
    have hG7 := hG6.fr hF67 (by omega) (by omega) (by simp only [Value.ownBlock]; intro e; cases e; omega)
    have hF7 := hF6.trans hF67 (.inl rfl)
    have hend := hfin h7 W7 r7 hR7 hF7 (hp7.trans hp6) hH7
    obtain ⟨g0, g1, g2⟩ := hG7.cell
    obtain ⟨z0, z1, z2⟩ := hR7.cell
    have zf := hR7.free
    have hRl := hR7.lt
    clear r6 hR6 hG6 hF6 hF67 hfin r7 hF7 hD6 hp6 hp7 hH7 hl6
    dsimp only [storeT, z] at hend z0 z1 z2
    go_wp2
    generalize World.setCell _ _ _ = W8 at hend ⊢
    obtain ⟨hE8, hrest⟩ := hend
    obtain ⟨q0, q1, q2⟩ := hE8.cell
    exact bodyPost_ret (v := tmV (at' h i)) (by simp [results, Tryz.results149, go_sem, q0, q1, q2]) rfl ⟨rfl, hrest⟩
  · have hdi : decide (i < E) = false := decide_eq_false hiE
    have hHo : Heap (out h i) := by
      have := out_last hb (by omega)
      rw [show h.length - 1 = i by have := hE'.out; omega] at this
      exact this
    have hend := hfin (out h i) W5 r5 hR5 hF5 (List.Perm.refl _) hHo
    obtain ⟨g0, g1, g2⟩ := hG5.cell
    obtain ⟨z0, z1, z2⟩ := hR5.cell
    have zf := hR5.free
    have hRl := hR5.lt
    clear hfin r5 hF5 hHo
    dsimp only [storeT, z] at hend z0 z1 z2
    go_wp2
    generalize World.setCell _ _ _ = W8 at hend ⊢
    obtain ⟨hE8, hrest⟩ := hend
    obtain ⟨q0, q1, q2⟩ := hE8.cell
    exact bodyPost_ret (v := tmV (at' h i)) (by simp [results, Tryz.results149, go_sem, q0, q1, q2]) rfl ⟨rfl, hrest⟩
end Go.Proofs.YtakaadcpaeiccabGreat

namespace Go.Proofs.YtakaadcpaeiccabGreat
open Go.RowKit Go.Maps
open Hp

set_option maxHeartbeats 1000000 in
theorem NewTimers_any (w : World) :
    Calls Tryz.prog 47 #[] w fun e w' => e = .returned (.pointer (some ⟨w.heap.size + 1, 0, none⟩)) ∧ Below w.heap.size w w' ∧ TR w.heap.size (w.heap.size + 1) w.heap.size 0 [] (.slice none 0 0) w' := by
  have hmm := @run_makeMap Tryz.prog
  have hm := MapI.made w
  have hB : Below w.heap.size w ((w.alloc (.map #[] 0)).alloc (.cells #[.slice none 0 0, .map (some w.heap.size), .int .i64 0] 165)) := ((Below.refl _ _).alloc (Nat.le_refl _) _).alloc (by simp) _
  have hT : TBk (w.heap.size + 1) w.heap.size 0 (.slice none 0 0) ((w.alloc (.map #[] 0)).alloc (.cells #[.slice none 0 0, .map (some w.heap.size), .int .i64 0] 165)) := by
    have h := heap_alloc_new (w.alloc (.map #[] 0)) (.cells #[.slice none 0 0, .map (some w.heap.size), .int .i64 0] 165)
    rw [World.size_alloc] at h
    exact h
  have hm2 := hm.kept (World.grownBy_alloc (w.alloc (.map #[] 0)) (.cells #[.slice none 0 0, .map (some w.heap.size), .int .i64 0] 165) none) (by simp)
  go_enter Tryz.func47, Tryz.ntmps47
  go_wp2
  go_ret
  exact ⟨rfl, hB, hT, ⟨rfl, .inl ⟨rfl, rfl⟩⟩, ⟨_, hm2, ⟨fun i x hx => by simp at hx, fun k i hk => by cases hk⟩⟩, fun x hx => by simp at hx, Nat.le_succ _, Nat.le_refl _⟩

theorem f_of {h : List Tm} {f : Int → Option Nat} (p : PI h f) {k : Int} (hk : ∀ x ∈ h, x.2.1 ≠ k) : f k = none := by
  cases e : f k with
  | none => rfl
  | some i =>
    obtain ⟨x, hx, he⟩ := p.2 k i e
    exact absurd he (hk x (List.mem_of_getElem? hx))

theorem TBk.set2 {T M : Nat} {last : Int} {v : Value} {W : World} (h : TBk T M last v W) (l : Int) : TBk T M l v (W.setCell ⟨T, 2, none⟩ (.int .i64 l)) := by
  unfold TBk at h ⊢
  simp [World.setCell, Array.getElem?_modify, h]
theorem TBk.alloc {T M : Nat} {last : Int} {v : Value} {W : World} (h : TBk T M last v W) (o : Obj) : TBk T M last v (W.alloc o) := h.kept (World.grownBy_alloc W o none) (by simp)
theorem TBk.drew {T M : Nat} {last : Int} {v : Value} {W : World} (h : TBk T M last v W) : TBk T M last v W.drew := h
theorem cells3_new (W : World) (x : Tm) : ∀ (j : Nat) (u : Value), (tmC x)[j]? = some u → (W.alloc (tmBox x)).cell? ((⟨W.heap.size, 0, none⟩ : Addr).add j) = some u := by
  intro j u hj
  have hh := heap_alloc_new W (tmBox x)
  match j, hj with
  | 0, hj => exact (cell_of_row _ _ 0 _ _ _ hh).trans hj
  | 1, hj => exact (cell_of_row _ _ 1 _ _ _ hh).trans hj
  | 2, hj => exact (cell_of_row _ _ 2 _ _ _ hh).trans hj
  | j + 3, hj => simp [tmC] at hj
theorem one3 (x : Tm) : ∀ u ∈ tmC x, u.oneCell' = true := by
  intro u hu
  simp only [tmC, List.mem_cons, List.not_mem_nil, or_false] at hu
  rcases hu with rfl | rfl | rfl <;> rfl

set_option maxRecDepth 100000 in
set_option maxHeartbeats 4000000 in
theorem Add_any (base T M : Nat) (last : Int) (h : List Tm) (v : Value) (w : World) (r : TR base T M last h v w) (hn : h.length ≤ 900000) (hb : Heap h) (l0 : 0 ≤ last) (l1 : last ≤ 4000000000000000000) (hid : ∀ x ∈ h, x.2.1 ≤ last) (tm what : Int) (a0 : 0 ≤ tm ∧ tm < 18446744073709551616) (b0 : I64 what) (hbs : base ≤ w.heap.size) :
    Calls Tryz.prog 154 #[.pointer (some ⟨T, 0, none⟩), .int .u64 tm, .int .i64 what] w fun e w' => e = .returned (.int .i64 (last + 1)) ∧ ∃ h' v', TR base T M (last + 1) h' v' w' ∧ Fr T M v w w' ∧ (v'.ownBlock = v.ownBlock ∨ ∀ k, v'.ownBlock = some k → w.heap.size ≤ k) ∧ h'.Perm (h ++ [(tm, last + 1, what)]) ∧ Heap h' := by
  obtain ⟨i0, hi, hz0, hz1, hz2⟩ := info_parts info_tm
  obtain ⟨c0, c1, c2⟩ := r.blk.cell
  have ft := r.blk.free
  have hT := r.blk.lt
  have hap := r.apart
  obtain ⟨f, hm, hp⟩ := r.map
  have hg2 : w.grownBy (w.setCell ⟨T, 2, none⟩ (.int .i64 (last + 1))) (some T) := grown_st (grown_rfl _ _) 2 _
  have hBA := r.blk.set2 (last + 1)
  have hrowA := r.row.kept hg2 (.inr (Ne.symm hap.2.1))
  have hmA := hm.kept hg2 (by simpa using hap.1.symm)
  have hFA := Fr.grown (T := T) (M := M) (v := v) hg2 (.inr (.inl rfl))
  have hsz : w.heap.size ≤ (w.setCell ⟨T, 2, none⟩ (.int .i64 (last + 1))).heap.size := hg2.size
  have hfn := f_of hp (k := last + 1) (fun x hx => by have := hid x hx; omega)
  have hpA := hp.add (x := (tm, last + 1, what)) hfn
  have hok : ∀ x ∈ h ++ [(tm, last + 1, what)], TOk x := by
    intro x hx
    rcases List.mem_append.1 hx with hx | hx
    · exact r.ok x hx
    · rw [List.mem_singleton] at hx
      subst hx
      exact ⟨a0, by unfold I64; dsimp only; omega, b0⟩
  have hbT := r.bT
  have hbM := r.bM
  have hBo := add_both hb (tm, last + 1, what)
  have hll : (h ++ [(tm, last + 1, what)]).length = h.length + 1 := by rw [List.length_append, List.length_singleton]
  have hTC : TC (h ++ [(tm, last + 1, what)]) = TC h ++ tmC (tm, last + 1, what) := by
    rw [TC_append]
    rfl
  obtain ⟨ao, c, hv, _⟩ := row_form r.row
  clear r hm hp hg2
  subst hv
  go_enter Tryz.func154, Tryz.ntmps154
  go_wp2_with fail
  generalize World.setCell _ _ _ = A at hBA hrowA hmA hFA hsz ⊢
  clear c0 c1 c2 ft
  obtain ⟨b0', b1, b2⟩ := hBA.cell
  have ft := hBA.free
  have haT := fun o => (hBA.alloc o).cell.1
  have haL := fun o => (hBA.alloc o).cell.2.2
  have hk1 : Hid (h.length + 1 ≤ maxLen) := by show _ ≤ _; unfold maxLen; omega
  have hk2 : Hid ((h.length + 1) * 24 ≤ 140737488355328) := by show _ ≤ _; omega
  have hbA : Hid (∀ o : Obj, base ≤ (A.alloc o).drew.heap.size) := by
    intro o
    show base ≤ (A.alloc o).heap.size
    rw [World.size_alloc]
    omega
  have hTne : Hid (some T ≠ (Value.slice ao h.length c).ownBlock) := hap.2.1
  go_region_law (refine step_append_at rfl (.tmp 24) (.tmp 32) 163 rfl base 254 i0 (.agg #[.int .u64 0, .int .i64 0, .int .i64 0]) 3 24 Tryz.underlying163 hi hz0 hz1 hz2 rfl (by decide) (.slice ao h.length c) h.length (TC h) (by simp [Act.eval]) (hrowA.alloc _).drew ⟨_, 0, none⟩ 1 1 (tmC (tm, last + 1, what)) (by simp [Act.eval]) rfl (cells3_new _ _) (one3 _) hk1.out hk2.out (hbA.out _) ?_; intro v7 w7 ho7 hg7 hloc; obtain ⟨g7, c7, rfl, hg7b⟩ := row_shape' ho7 (Nat.succ_pos _); have hB7 := (hBA.alloc (tmBox (tm, last + 1, what))).drew.kept hg7 hTne.out; have hc7 := hB7.cell.1; have hf7 := hB7.free 0)
  all_goals
    have hloc' : (Value.slice (some ⟨g7, 0, none⟩) (h.length + 1) c7).ownBlock = (Value.slice ao h.length c).ownBlock ∨ ∀ k, (Value.slice (some ⟨g7, 0, none⟩) (h.length + 1) c7).ownBlock = some k → w.heap.size ≤ k := by
      rcases hloc with e | e
      · exact .inl e
      · refine .inr fun k hk => ?_
        rw [e] at hk
        cases hk
        exact Nat.le_trans hsz (by show A.heap.size ≤ (A.alloc _).heap.size; rw [World.size_alloc]; omega)
    have hgo : A.grownBy (A.alloc (tmBox (tm, last + 1, what))).drew none := grown_dr (World.grownBy_alloc A _ none)
    have hmB := (hmA.kept hgo (by simp)).kept hg7 hap.2.2
    have hF7 := (hFA.trans (Fr.grown (T := T) (M := M) (v := Value.slice ao h.length c) hgo (.inl rfl)) (.inl rfl)).trans (Fr.grown (T := T) (M := M) (v := Value.slice ao h.length c) hg7 (.inr (.inr (.inr rfl)))) (.inl rfl)
    have hB8 := hB7.set (.slice (some ⟨g7, 0, none⟩) (h.length + 1) c7)
    have hg8 : w7.grownBy (w7.setCell ⟨T, 0, none⟩ (.slice (some ⟨g7, 0, none⟩) (h.length + 1) c7)) (some T) := grown_st (grown_rfl _ _) 0 _
    have hTg7 : T ≠ g7 := by
      rintro rfl
      rcases ho7.2 with ⟨he, _⟩ | ⟨_, _, _, he, _, hh, _⟩
      · cases he
      · cases he
        unfold TBk at hB7
        rw [hB7] at hh
        simp at hh
    have ho8 := ho7.kept hg8 (.inr (by simp [Value.ownBlock]; exact fun e => hTg7 e.symm))
    have hm8 := hmB.kept hg8 (by simpa using hap.1.symm)
    have hF8 := hF7.trans (Fr.grown (T := T) (M := M) (v := Value.slice ao h.length c) hg8 (.inr (.inl rfl))) (.inl rfl)
    clear hc7 hf7 hB7 ho7 hg7 hgo hmB hF7 hg8 haT haL b0' b1 b2 ft hBA hrowA hmA hFA hloc
    generalize World.setCell _ _ _ = w8 at hB8 ho8 hm8 hF8 ⊢
    obtain ⟨b0', b1, b2⟩ := hB8.cell
    have hhl : I64 ((h.length : Nat) : Int) := by unfold I64; omega
    have hll64 : I64 (last + 1) := by unfold I64; omega
    obtain ⟨w9, hr9, hm9, hg9⟩ := (show MapI w8.drew M f h.length from hm8).put (by unfold maxLen; omega) hll64 hhl
    go_wp2_with fail
    go_region
    have hg9' : w8.grownBy w9 (some M) := ⟨hg9.os, hg9.tape, hg9.output, hg9.size, hg9.block⟩
    rw [hfn] at hm9
    simp only [Option.isSome_none, Bool.false_eq_true, if_false] at hm9
    have hMg7 : M ≠ g7 := by
      rintro rfl
      rcases ho8.2 with ⟨he, _⟩ | ⟨_, _, _, he, _, hh, _⟩
      · cases he
      · cases he
        obtain ⟨D, ⟨es, clock, hmm, _⟩, _⟩ := hm8
        rw [hmm] at hh
        cases hh
    have r9 : TR base T M (last + 1) (h ++ [(tm, last + 1, what)]) (.slice (some ⟨g7, 0, none⟩) (h.length + 1) c7) w9 := by
      refine ⟨hB8.kept hg9' (by simpa using hap.1), ?_, ⟨_, ?_, hpA⟩, hok, hbT, hbM⟩
      · rw [hll, hTC]
        exact ho8.kept hg9' (.inr (by simp [Value.ownBlock]; exact fun e => hMg7 e.symm))
      · rw [hll]
        exact hm9
    have hF9 := hF8.trans (Fr.grown (T := T) (M := M) (v := Value.slice ao h.length c) hg9' (.inr (.inr (.inl rfl)))) (.inl rfl)
    clear hB8 ho8 hm8 hF8 hr9 hm9 hg9 hg9' b0' b1 b2 hpA
    go_wp2_with fail
    refine (rise_any base T M (last + 1) _ _ _ r9 h.length (by rw [hll]; omega) (by rw [hll]; omega) hBo).mono ?_
    rintro e w10 ⟨rfl, h10, r10, hF10, hp10, hD10⟩
    have hl10 : h10.length = h.length + 1 := by rw [hp10.length_eq]; exact hll
    have hH10 : Heap h10 := hD10.leaf (by omega)
    have hF11 := hF9.trans hF10 hloc'
    obtain ⟨b0', b1, b2⟩ := r10.blk.cell
    clear r9 hF9 hF10 hD10 hl10
    go_wp2
    go_ret
    exact ⟨rfl, h10, _, r10, hF11, hloc', hp10, hH10⟩
end Go.Proofs.YtakaadcpaeiccabGreat

namespace Go.Proofs.YtakaadcpaeiccabGreat
open Go.RowKit Go.Maps
open Hp

set_option maxRecDepth 100000 in
set_option maxHeartbeats 4000000 in
theorem Cancel_any (base T M : Nat) (last : Int) (h : List Tm) (v : Value) (w : World) (r : TR base T M last h v w) (hn : h.length ≤ 1000000) (hb : Heap h) (k : Int) (hk : I64 k) :
    Calls Tryz.prog 150 #[.pointer (some ⟨T, 0, none⟩), .int .i64 k] w fun e w' => ∃ h' v', TR base T M last h' v' w' ∧ Fr T M v w w' ∧ v'.ownBlock = v.ownBlock ∧ Heap h' ∧
      ((∃ x, x.2.1 = k ∧ e = .returned (.bool true) ∧ (x :: h').Perm h) ∨ ((∀ x ∈ h, x.2.1 ≠ k) ∧ e = .returned (.bool false) ∧ h' = h)) := by
  obtain ⟨f, hm, hp⟩ := r.map
  obtain ⟨u, hr, hu⟩ := hm.look hk
  obtain ⟨c0, c1, c2⟩ := r.blk.cell
  have hF := Fr.refl T M v w
  cases hf : f k with
  | none =>
    rw [hf] at hr
    have hno : ∀ x ∈ h, x.2.1 ≠ k := by
      intro x hx e
      obtain ⟨i, hi, rfl⟩ := List.mem_iff_getElem.1 hx
      have := hp.1 i _ (List.getElem?_eq_getElem hi)
      rw [e, hf] at this
      cases this
    simp only [Option.isSome_none] at hr
    clear hm hp hu hf
    go_enter Tryz.func150, Tryz.ntmps150
    go_wp2
    go_ret
    exact ⟨h, v, r, hF, rfl, hb, .inr ⟨hno, rfl, rfl⟩⟩
  | some i =>
    rw [hf] at hr
    obtain rfl := hu i hf
    obtain ⟨x, hx, hxk⟩ := hp.2 k i hf
    have hi : i < h.length := by
      rcases Nat.lt_or_ge i h.length with a | a
      · exact a
      · rw [List.getElem?_eq_none a] at hx; cases hx
    have hax := at_some hx
    simp only [Option.isSome_some] at hr
    clear hm hp hu hf hx
    go_enter Tryz.func150, Tryz.ntmps150
    go_wp2_with fail
    refine (remove_any base T M last h v _ r i hi hn hb).mono ?_
    rintro e w1 ⟨rfl, h', v', r1, hF1, hv1, hp1, hH1⟩
    rw [hax] at hp1
    clear hr r c0 c1 c2
    go_wp2
    go_ret
    exact ⟨h', v', r1, hF1, hv1, hH1, .inl ⟨x, hxk, rfl, hp1⟩⟩

theorem fd_what (a b c : Int) (w : World) : (Instr.field 254 (.agg #[.int .u64 a, .int .i64 b, .int .i64 c]) 2).run Tryz.prog w = .ok (.int .i64 c) w := by kernel_rfl
/-- What Next may leave. -/
def NextP (base T M : Nat) (last : Int) (h : List Tm) (v : Value) (w : World) (now : Int) (e : Ending) (w' : World) : Prop :=
  ∃ h' v', TR base T M last h' v' w' ∧ Fr T M v w w' ∧ v'.ownBlock = v.ownBlock ∧ Heap h' ∧
      ((0 < h.length ∧ (at' h 0).1 ≤ now ∧ e = .returned (.tuple #[.int .i64 (at' h 0).2.2, .bool true]) ∧ (at' h 0 :: h').Perm h) ∨ ((h.length = 0 ∨ now < (at' h 0).1) ∧ e = .returned (.tuple #[.int .i64 0, .bool false]) ∧ h' = h))

set_option maxRecDepth 100000 in
set_option maxHeartbeats 4000000 in
theorem Next_any (base T M : Nat) (last : Int) (h : List Tm) (v : Value) (w : World) (r : TR base T M last h v w) (hn : h.length ≤ 1000000) (hb : Heap h) (now : Int) (_n0 : 0 ≤ now) (_n1 : now < 18446744073709551616) :
    Calls Tryz.prog 114 #[.pointer (some ⟨T, 0, none⟩), .int .u64 now] w fun e w' => NextP base T M last h v w now e w' := by
  obtain ⟨c0, c1, c2⟩ := r.blk.cell
  have hF := Fr.refl T M v w
  by_cases h0 : h.length = 0
  · obtain ⟨ao, c, hv, _⟩ := row_form r.row
    have hz : ((h.length : Int) == 0) = true := by rw [beq_iff_eq]; omega
    rw [hv] at c0
    go_enter Tryz.func114, Tryz.ntmps114
    go_wp2
    go_ret2
    exact ⟨h, v, r, hF, rfl, hb, .inr ⟨.inl h0, rfl, rfl⟩⟩
  · have hpos : 0 < h.length := by omega
    obtain ⟨g, cap, rfl, hg⟩ := r.shape hpos
    have hz : ((h.length : Int) == 0) = false := by rw [beq_eq_false_iff_ne]; omega
    have hin : (0 : Int) < (h.length : Int) := by omega
    have hl := TC_length h
    have d0 := (r.row.cellAt (0 * 3) (by omega)).trans (TC_at hpos).1
    rw [Nat.zero_mul] at d0
    by_cases hle : (at' h 0).1 ≤ now
    · have hd : decide (now < (at' h 0).1) = false := decide_eq_false (by omega)
      have hfd := fd_what
      clear hl
      go_enter Tryz.func114, Tryz.ntmps114
      go_wp2_with fail
      refine (remove_any base T M last h _ _ r 0 hpos hn hb).mono ?_
      rintro e w1 ⟨rfl, h', v', r1, hF1, hv1, hp1, hH1⟩
      clear r c0 c1 c2 d0 hd
      dsimp only [tmV]
      go_wp2
      go_ret2
      exact ⟨h', v', r1, hF1, hv1, hH1, .inl ⟨hpos, hle, rfl, hp1⟩⟩
    · have hd : decide (now < (at' h 0).1) = true := decide_eq_true (by omega)
      clear hl
      go_enter Tryz.func114, Tryz.ntmps114
      go_wp2
      go_ret2
      exact ⟨h, _, r, hF, rfl, hb, .inr ⟨.inr (by omega), rfl, rfl⟩⟩
end Go.Proofs.YtakaadcpaeiccabGreat

namespace Go.Proofs.YtakaadcpaeiccabGreat
open Go.RowKit Go.Maps

/-! The searches, in memory. -/
theorem ts_zero (w : World) : (zeroValue 172).run Tryz.prog w = .ok (.pointer none) w := by kernel_rfl
theorem MapP.obj {W : World} {M : Nat} {f : Int → Option Nat} {s : Nat} (h : MapP W M f s) : ∃ es cl, W.heap[M]? = some (.map es cl) := by
  obtain ⟨D, ⟨es, cl, hm, _⟩, _⟩ := h
  exact ⟨es, cl, hm⟩
theorem MapP.puts {W : World} {M : Nat} {f : Int → Option Nat} {s : Nat} (h : MapP W M f s) (hs : s < maxLen) {k : Int} (hk : U32 k) (B : Nat) :
    ∃ W', (Instr.mapUpdate 119 (.map (some M)) (.int .u32 k) (.pointer (some ⟨B, 0, none⟩))).run Tryz.prog W = .ok () W' ∧ MapP W' M (updP f k (some B)) (if (f k).isSome then s else s + 1) ∧ W.grownBy W' (some M) := by
  obtain ⟨D, h1, h2, h3⟩ := h
  obtain ⟨W', hr, ho, ht⟩ := h1.store tu_law Tryz.underlying119 hs hk.key (ptrR_of (some B))
  have hm := h1.isMap
  have htd := h1.tidy tu_law
  have hkl : WideAt.IsKeyLit (.int .u32 k) := by trivial
  have hsz : Maps.size (D.put (.int .u32 k) (.lit (.int .i64 (litOf (some B))))) = if (f k).isSome then s else s + 1 := by
    rw [size_put htd, (h3 k hk).1, h2]
  refine ⟨W', hr, ⟨_, ?_, hsz, fun x hx => ?_⟩, ht.grown⟩
  · have := ownsMap_tight ho
    rw [hsz] at this
    exact this
  · by_cases e : x = k
    · subst e
      refine ⟨by rw [has_put_same hm hkl]; simp [updP], ?_⟩
      rw [atKey_put_same hm hkl]
      simp [updP]
    · have hne : (Lit.int .u32 x) ≠ .int .u32 k := fun h => e (by cases h; rfl)
      refine ⟨by rw [has_put_other hne]; simp [updP, e, (h3 x hx).1], ?_⟩
      rw [atKey_put_other hne, (h3 x hx).2]
      simp [updP, e]
theorem MapP.looks {W : World} {M : Nat} {f : Int → Option Nat} {s : Nat} (h : MapP W M f s) {k : Int} (hk : U32 k) :
    (Instr.lookup 119 (.map (some M)) (.int .u32 k) false).run Tryz.prog W = .ok (ptrOf (f k)) W := by
  obtain ⟨D, h1, h2, h3⟩ := h
  obtain ⟨v, ps, hr, hv⟩ := h1.lookup tu_law Tryz.underlying119 (ts_zero W) (ptrR_of none) hk.key
  have h4 := (h3 k hk).2
  simp only [litOf] at hv h4
  rw [h4] at hv
  rw [hr, ptrR_inv (o := f k) hv]
theorem MapP.looks_ok {W : World} {M : Nat} {f : Int → Option Nat} {s : Nat} (h : MapP W M f s) {k : Int} (hk : U32 k) :
    (Instr.lookup 119 (.map (some M)) (.int .u32 k) true).run Tryz.prog W = .ok (.tuple #[ptrOf (f k), .bool (f k).isSome]) W := by
  obtain ⟨D, h1, h2, h3⟩ := h
  obtain ⟨v, ps, hr, hv⟩ := h1.look_ok tu_law Tryz.underlying119 (ts_zero W) (ptrR_of none) hk.key
  have h4 := (h3 k hk).2
  simp only [litOf] at hv h4
  rw [h4] at hv
  rw [hr, ptrR_inv (o := f k) hv, (h3 k hk).1]
theorem MapP.dels {W : World} {M : Nat} {f : Int → Option Nat} {s : Nat} (h : MapP W M f s) {k : Int} (hk : U32 k) (ty : TypeId) (hf : (f k).isSome = true) :
    ∃ W', (Builtin.delete_ #[119, 34] ty #[.map (some M), .int .u32 k]).run Tryz.prog W = .ok (.tuple #[]) W' ∧ MapP W' M (updP f k none) (s - 1) ∧ W.grownBy W' (some M) := by
  obtain ⟨D, h1, h2, h3⟩ := h
  obtain ⟨W', hr, ho, ht⟩ := h1.drop tu_law Tryz.underlying119 hk.key ty
  have htd := h1.tidy tu_law
  have hsz : Maps.size (D.del (.int .u32 k)) = s - 1 := by
    have := size_del (k := .int .u32 k) htd
    rw [(h3 k hk).1, hf, h2] at this
    simp at this
    omega
  refine ⟨W', hr, ⟨_, ?_, hsz, fun x hx => ?_⟩, ht.grown⟩
  · have := ownsMap_tight ho
    rw [hsz] at this
    exact this
  · by_cases e : x = k
    · subst e
      refine ⟨by rw [has_del_same]; simp [updP], ?_⟩
      rw [atKey_del_same]
      simp [updP, litOf]
    · have hne : (Lit.int .u32 x) ≠ .int .u32 k := fun h => e (by cases h; rfl)
      refine ⟨by rw [has_del_other hne]; simp [updP, e, (h3 x hx).1], ?_⟩
      rw [atKey_del_other hne, (h3 x hx).2]
      simp [updP, e]

/-- What is to be done when a search's time has come: a method value. -/
def srFn (out : Bool) (B : Nat) : Value := .func (.func (if out then 124 else 83)) #[.pointer (some ⟨B, 0, none⟩)] #[]
@[reducible] def srBox (q : Sr) (v fn : Value) : Obj := .cells #[.int .u32 q.dest, v, .int .i64 q.ttl, .int .i64 q.ret, .int .i64 q.id, fn] 177
def SrB (B : Nat) (q : Sr) (v fn : Value) (W : World) : Prop := W.heap[B]? = some (srBox q v fn)
theorem SrB.cell {B : Nat} {q : Sr} {v fn : Value} {W : World} (h : SrB B q v fn W) :
    W.cell? ⟨B, 0, none⟩ = some (.int .u32 q.dest) ∧ W.cell? ⟨B, 1, none⟩ = some v ∧ W.cell? ⟨B, 2, none⟩ = some (.int .i64 q.ttl) ∧ W.cell? ⟨B, 3, none⟩ = some (.int .i64 q.ret) ∧ W.cell? ⟨B, 4, none⟩ = some (.int .i64 q.id) ∧ W.cell? ⟨B, 5, none⟩ = some fn :=
  ⟨cell_of_row W B 0 _ _ _ h, cell_of_row W B 1 _ _ _ h, cell_of_row W B 2 _ _ _ h, cell_of_row W B 3 _ _ _ h, cell_of_row W B 4 _ _ _ h, cell_of_row W B 5 _ _ _ h⟩
theorem SrB.free {B : Nat} {q : Sr} {v fn : Value} {W : World} (h : SrB B q v fn W) (i : Nat) : W.frozen? ⟨B, i, none⟩ = false := by
  unfold World.frozen?
  rw [show W.heap[(⟨B, i, none⟩ : Addr).block]? = some (srBox q v fn) from h]
  try rfl
theorem SrB.lt {B : Nat} {q : Sr} {v fn : Value} {W : World} (h : SrB B q v fn W) : B < W.heap.size := (Array.getElem?_eq_some_iff.1 h).1
theorem SrB.block {B : Nat} {q : Sr} {v fn : Value} {W W' : World} (h : SrB B q v fn W) (he : W'.heap[B]? = W.heap[B]?) : SrB B q v fn W' := he.trans h
/-- A search in memory: what is to be done is laid as soon as a timer was set. -/
def SrL (B : Nat) (q : Sr) (v : Value) (W : World) : Prop := ∃ fn, SrB B q v fn W ∧ (q.id ≠ 0 → fn = srFn q.out B)
theorem SrL.cell {B : Nat} {q : Sr} {v : Value} {W : World} (h : SrL B q v W) :
    W.cell? ⟨B, 0, none⟩ = some (.int .u32 q.dest) ∧ W.cell? ⟨B, 1, none⟩ = some v ∧ W.cell? ⟨B, 2, none⟩ = some (.int .i64 q.ttl) ∧ W.cell? ⟨B, 3, none⟩ = some (.int .i64 q.ret) ∧ W.cell? ⟨B, 4, none⟩ = some (.int .i64 q.id) := by
  obtain ⟨fn, h1, _⟩ := h
  obtain ⟨c0, c1, c2, c3, c4, _⟩ := h1.cell
  exact ⟨c0, c1, c2, c3, c4⟩
theorem SrL.lt {B : Nat} {q : Sr} {v : Value} {W : World} (h : SrL B q v W) : B < W.heap.size := by
  obtain ⟨fn, h1, _⟩ := h
  exact h1.lt
theorem SrL.block {B : Nat} {q : Sr} {v : Value} {W W' : World} (h : SrL B q v W) (he : W'.heap[B]? = W.heap[B]?) : SrL B q v W' := by
  obtain ⟨fn, h1, h2⟩ := h
  exact ⟨fn, h1.block he, h2⟩
theorem SrL.obj {B : Nat} {q : Sr} {v : Value} {W : World} (h : SrL B q v W) : ∃ c, W.heap[B]? = some (.cells c 177 (0, 0)) := by
  obtain ⟨fn, h1, _⟩ := h
  exact ⟨_, h1⟩
structure Sr.Ok (q : Sr) : Prop where
  dest : U32 q.dest
  ttl : 1 ≤ q.ttl ∧ q.ttl ≤ 8
  ret : q.ret ≤ 2
  txt : q.txt.length ≤ 4
  siz : ∀ t ∈ q.txt, t.size ≤ 16
  id : 0 ≤ q.id ∧ q.id ≤ 4611686018427387904
/-- The blocks of the searches. -/
def SrIn (Ms : Nat) (h : Int → Option Nat) (u : Int → Value) (Q : List Sr) (k : Nat) : Prop :=
  k = Ms ∨ ∃ q ∈ Q, h q.dest = some k ∨ (u q.dest).ownBlock = some k
structure SrM (Ms : Nat) (h : Int → Option Nat) (u : Int → Value) (Q : List Sr) (W : World) : Prop where
  map : MapP W Ms h Q.length
  nod : Q.Pairwise fun a b => a.dest ≠ b.dest
  ok : ∀ q ∈ Q, q.Ok
  dom : ∀ d B, U32 d → h d = some B → ∃ q ∈ Q, q.dest = d
  ln : ∀ q ∈ Q, ∃ B, h q.dest = some B ∧ SrL B q (u q.dest) W
  row : ∀ q ∈ Q, W.ownsRow 0 9 1 (u q.dest) q.txt.length (q.txt.map Value.string)
  apart : ∀ a ∈ Q, ∀ b ∈ Q, a.dest ≠ b.dest → (u a.dest).ownBlock = none ∨ (u a.dest).ownBlock ≠ (u b.dest).ownBlock
  len : Q.length ≤ 5000
theorem SrM.kept {Ms : Nat} {h : Int → Option Nat} {u : Int → Value} {Q : List Sr} {W W' : World} (s : SrM Ms h u Q W) (he : ∀ k, SrIn Ms h u Q k → W'.heap[k]? = W.heap[k]?) : SrM Ms h u Q W' := by
  refine ⟨s.map.block (he _ (.inl rfl)), s.nod, s.ok, s.dom, fun q hq => ?_, fun q hq => ?_, s.apart, s.len⟩
  · obtain ⟨B, h1, h2⟩ := s.ln q hq
    exact ⟨B, h1, h2.block (he B (.inr ⟨q, hq, .inl h1⟩))⟩
  · exact row_at (s.row q hq) fun k hk => he k (.inr ⟨q, hq, .inr hk⟩)
theorem SrM.lt {Ms : Nat} {h : Int → Option Nat} {u : Int → Value} {Q : List Sr} {W : World} (s : SrM Ms h u Q W) {k : Nat} (hk : SrIn Ms h u Q k) : k < W.heap.size := by
  rcases hk with rfl | ⟨q, hq, hk | hk⟩
  · exact s.map.lt
  · obtain ⟨B, h1, h2⟩ := s.ln q hq
    rw [h1] at hk
    cases hk
    exact h2.lt
  · exact ((s.row q hq).lt k hk).2
/-- A block of the searches is the map, or a search, or a row of texts. -/
theorem SrM.kind {Ms : Nat} {h : Int → Option Nat} {u : Int → Value} {Q : List Sr} {W : World} (s : SrM Ms h u Q W) {k : Nat} (hk : SrIn Ms h u Q k) : ∃ o, W.heap[k]? = some o ∧ ((k = Ms ∧ ∃ es cl, o = .map es cl) ∨ (∃ c, o = .cells c 177 (0, 0)) ∨ ∃ c, o = .cells c 9 (0, 0)) := by
  rcases hk with rfl | ⟨q, hq, hk | hk⟩
  · obtain ⟨es, cl, hm⟩ := s.map.obj
    exact ⟨_, hm, .inl ⟨rfl, _, _, rfl⟩⟩
  · obtain ⟨B, h1, h2⟩ := s.ln q hq
    rw [h1] at hk
    cases hk
    obtain ⟨c, hc⟩ := h2.obj
    exact ⟨_, hc, .inr (.inl ⟨_, rfl⟩)⟩
  · obtain ⟨c, hc⟩ := row_obj (s.row q hq) hk
    exact ⟨_, hc, .inr (.inr ⟨_, rfl⟩)⟩
theorem srOf_some {Q : List Sr} {d : Int} {q : Sr} (h : St.srOf Q d = some q) : q ∈ Q ∧ q.dest = d := by
  unfold St.srOf at h
  exact ⟨List.mem_of_find?_eq_some h, by simpa using List.find?_some h⟩
theorem srOf_none {Q : List Sr} {d : Int} : St.srOf Q d = none ↔ ∀ q ∈ Q, q.dest ≠ d := by
  unfold St.srOf
  simp
theorem SrM.off {Ms : Nat} {h : Int → Option Nat} {u : Int → Value} {Q : List Sr} {W : World} (s : SrM Ms h u Q W) {d : Int} (hd : U32 d) (hn : St.srOf Q d = none) : h d = none := by
  cases e : h d with
  | none => rfl
  | some B =>
    obtain ⟨q, hq, hqd⟩ := s.dom d B hd e
    exact absurd hqd (srOf_none.1 hn q hq)
theorem SrM.at {Ms : Nat} {h : Int → Option Nat} {u : Int → Value} {Q : List Sr} {W : World} (s : SrM Ms h u Q W) {d : Int} {q : Sr} (hn : St.srOf Q d = some q) : q ∈ Q ∧ q.dest = d ∧ ∃ B, h d = some B ∧ SrL B q (u d) W ∧ W.ownsRow 0 9 1 (u d) q.txt.length (q.txt.map Value.string) := by
  obtain ⟨hq, rfl⟩ := srOf_some hn
  obtain ⟨B, h1, h2⟩ := s.ln q hq
  exact ⟨hq, rfl, B, h1, h2, s.row q hq⟩
end Go.Proofs.YtakaadcpaeiccabGreat
