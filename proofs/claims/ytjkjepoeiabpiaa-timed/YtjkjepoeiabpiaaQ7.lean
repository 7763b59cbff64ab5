import Derived.Test.YtjkjepoeiabpiaaQ6
namespace Go.Proofs.Ytjkjepoeiabpiaa
open Go.RowKit Go.Maps
open Hp

theorem row_take {W : World} {base e size n cap g : Nat} {xs : List Value} (h : W.ownsRow base e size (.slice (some ⟨g, 0, none⟩) n cap) n xs) {m : Nat} (hm : m ≤ n) :
    W.ownsRow base e size (.slice (some ⟨g, 0, none⟩) m cap) m (xs.take (m * size)) := by
  have h1 := h.1
  rcases h.2 with ⟨he, _⟩ | ⟨g', cap', cur, he, k1, k2, k3, k4, k5, k6⟩
  · cases he
  · cases he
    have hle : m * size ≤ n * size := Nat.mul_le_mul_right _ hm
    refine ⟨by rw [List.length_take, h1]; omega, .inr ⟨g, cap, cur, rfl, k1, k2, by omega, k4, k5, ?_⟩⟩
    rw [← k6, List.take_take, Nat.min_eq_left hle]
theorem TBk.set {T M : Nat} {last : Int} {v : Value} {W : World} (h : TBk T M last v W) (v' : Value) : TBk T M last v' (W.setCell ⟨T, 0, none⟩ v') := by
  unfold TBk at h ⊢
  simp [World.setCell, Array.getElem?_modify, h]
/-- A block that is a timer's box. -/
def TmBk (B : Nat) (x : Tm) (W : World) : Prop := W.heap[B]? = some (tmBox x)
theorem TmBk.cell {B : Nat} {x : Tm} {W : World} (h : TmBk B x W) :
    W.cell? ⟨B, 0, none⟩ = some (.int .u64 x.1) ∧ W.cell? ⟨B, 1, none⟩ = some (.int .i64 x.2.1) ∧ W.cell? ⟨B, 2, none⟩ = some (.int .i64 x.2.2) :=
  ⟨cell_of_row W B 0 _ _ _ h, cell_of_row W B 1 _ _ _ h, cell_of_row W B 2 _ _ _ h⟩
theorem TmBk.free {B : Nat} {x : Tm} {W : World} (h : TmBk B x W) (i : Nat) : W.frozen? ⟨B, i, none⟩ = false := by
  unfold TmBk at h
  simp [World.frozen?, h]
theorem TmBk.lt {B : Nat} {x : Tm} {W : World} (h : TmBk B x W) : B < W.heap.size := (Array.getElem?_eq_some_iff.1 h).1
theorem TmBk.new (x : Tm) (W : World) : TmBk W.heap.size x (W.alloc (tmBox x)) := heap_alloc_new W _
theorem TmBk.fr {B : Nat} {x : Tm} {W W' : World} {T M : Nat} {v : Value} (h : TmBk B x W) (hf : Fr T M v W W') (h1 : B ≠ T) (h2 : B ≠ M) (h3 : some B ≠ v.ownBlock) : TmBk B x W' := (hf.block B h.lt h1 h2 h3).trans h
theorem TmBk.later {B : Nat} {x : Tm} {W W' : World} (h : TmBk B x W) (hb : Below W.heap.size W W') : TmBk B x W' := (hb.block B h.lt).trans h
theorem TmBk.grown {B : Nat} {x : Tm} {W W' : World} {r : Option Nat} (h : TmBk B x W) (hg : W.grownBy W' r) (hr : some B ≠ r) : TmBk B x W' := (hg.block B h.lt hr).trans h
@[reducible] def storeT (W : World) (B : Nat) (x : Tm) : World := ((W.setCell ⟨B, 0, none⟩ (.int .u64 x.1)).setCell ⟨B, 1, none⟩ (.int .i64 x.2.1)).setCell ⟨B, 2, none⟩ (.int .i64 x.2.2)
theorem TmBk.store {B : Nat} {x : Tm} {W : World} (h : TmBk B x W) (y : Tm) : TmBk B y (storeT W B y) := by
  unfold TmBk at h ⊢
  simp [World.setCell, Array.getElem?_modify, h]
theorem grown_storeT (W : World) (B : Nat) (y : Tm) : W.grownBy (storeT W B y) (some B) := grown_st (grown_st (grown_st (grown_rfl W (some B)) 0 _) 1 _) 2 _
theorem TR.grown {base T M : Nat} {last : Int} {h : List Tm} {v : Value} {W W' : World} {r : Option Nat} (q : TR base T M last h v W) (hg : W.grownBy W' r) (h1 : some T ≠ r) (h2 : some M ≠ r) (h3 : r = none ∨ r ≠ v.ownBlock) : TR base T M last h v W' := by
  obtain ⟨f, hm, hp⟩ := q.map
  have h4 : v.ownBlock = none ∨ v.ownBlock ≠ r := by
    rcases h3 with rfl | h3
    · cases v.ownBlock <;> simp
    · exact .inr (Ne.symm h3)
  exact ⟨q.blk.kept hg h1, q.row.kept hg h4, ⟨f, hm.kept hg h2, hp⟩, q.ok, q.bT, q.bM⟩

theorem TC_take : ∀ (h : List Tm) (m : Nat), TC (h.take m) = (TC h).take (m * 3)
  | [], m => by simp [TC]
  | a :: h, 0 => by simp [TC]
  | a :: h, m + 1 => by
    have ih := TC_take h m
    simp only [TC, List.take_succ_cons, List.flatMap_cons] at ih ⊢
    rw [ih]
    simp [tmC, show (m + 1) * 3 = m * 3 + 1 + 1 + 1 by omega]
theorem slice_toT (g n c k : Nat) (hk : k ≤ c) (W : World) : (Instr.slice 103 (.slice (some ⟨g, 0, none⟩) n c) none (some (.int .i64 k)) none).run Try.prog W = .ok (.slice (some ⟨g, 0, none⟩) k c) W := by
  have ht : Try.prog.underlying 103 = some (.slice (Try.prog.elem 103)) := by simp [Program.elem, Try.underlying103]
  have hz : ∀ w, (Go.sizeOf (Try.prog.elem 103)).run Try.prog w = .ok 3 w := by
    intro w
    simp [go_sem, Program.elem, Try.underlying103]
  rw [run_slice_h W 103 _ _ _ ht .i64 _ (by omega) (by omega), hz]
  simp only [Result.andThen, sliced]
  rw [Nat.sub_zero, Nat.sub_zero, Int.toNat_natCast]
  split <;> simp [Addr.add]

set_option maxRecDepth 100000 in
set_option maxHeartbeats 4000000 in
theorem remove_any (base T M : Nat) (last : Int) (h : List Tm) (v : Value) (w : World) (r : TR base T M last h v w) (i : Nat) (hi : i < h.length) (hn : h.length ≤ 1000000) (hb : Heap h) :
    Calls Try.prog 52 #[.pointer (some ⟨T, 0, none⟩), .int .i64 i] w fun e w' => e = .returned (tmV (at' h i)) ∧ ∃ h' v', TR base T M last h' v' w' ∧ Fr T M v w w' ∧ v'.ownBlock = v.ownBlock ∧ (at' h i :: h').Perm h ∧ Heap h' := by
  obtain ⟨g, cap, rfl, hg⟩ := r.shape (by omega)
  have hT := r.blk.lt
  have hM : M < w.heap.size := by
    obtain ⟨_, hm0, _⟩ := r.map
    exact hm0.lt
  have hgl := (r.row.lt g rfl).2
  have hb1 : Below w.heap.size w (w.alloc (tmBox z)) := (Below.refl _ _).alloc (Nat.le_refl _) _
  have r1 := r.later hb1
  have hR := TmBk.new z w
  have hF1 := (Fr.refl T M (.slice (some ⟨g, 0, none⟩) h.length cap) w).later hb1
  have cT := r1.blk.cell.1
  have hlen : (1 : Int) ≤ (h.length : Int) := by omega
  have hap := r.apart
  have hidx := ok_id r hi
  have hTg : ¬ T = g := fun e => hap.2.1 (by rw [e]; rfl)
  have hMg : ¬ M = g := fun e => hap.2.2 (by rw [e]; rfl)
  have hq : (h.length : Int) - 1 = ((h.length - 1 : Nat) : Int) := by omega
  generalize hE : h.length - 1 = E at hq
  have hE' := (show Hid _ from hE)
  generalize hRR : w.heap.size = R at hR hT hM hgl
  have hRR' := (show Hid _ from hRR)
  dsimp only [tmBox, z] at hb1 r1 hR hF1 cT
  clear hE hRR r hb1
  go_enter Try.func52, Try.ntmps52
  go_wp2_with fail
  rw [hRR'.out]
  generalize World.alloc _ _ = W1 at r1 hR hF1 cT ⊢
  refine (swap_any base T M last h _ _ r1 i E hi (by have := hE'.out; omega) hn).mono ?_
  rintro e W2 ⟨rfl, r2, hF12⟩
  have hEl : E < h.length := by have := hE'.out; omega
  have hEl2 : E < (sw h i E).length := by rw [sw_length]; exact hEl
  have hxE : at' (sw h i E) E = at' h i := by rw [at_sw hi hEl, if_pos rfl]
  have hTC := TC_at hEl2
  rw [hxE] at hTC
  have hTl := TC_length (sw h i E)
  have hsl2 : (sw h i E).length = h.length := sw_length _ _ _
  have hF2 := hF1.trans hF12 (.inl rfl)
  have hRa : R ≠ T ∧ R ≠ M ∧ R ≠ g := ⟨by omega, by omega, by omega⟩
  have hR2 := hR.fr hF12 hRa.1 hRa.2.1 (by simp only [Value.ownBlock]; intro e; cases e; exact hRa.2.2 rfl)
  have hrow2 := r2.row
  rw [hsl2] at hrow2
  have b3 : E * 3 + 2 < h.length * 3 := by omega
  have d0 := (hrow2.cellAt (E * 3) (Nat.lt_of_le_of_lt (by omega) b3)).trans hTC.1
  have d1 := (hrow2.cellAt (E * 3 + 1) (Nat.lt_of_le_of_lt (by omega) b3)).trans hTC.2.1
  have d2 := (hrow2.cellAt (E * 3 + 2) b3).trans hTC.2.2
  have c0 := r2.blk.cell.1
  have hEi : (E : Int) < (h.length : Int) := by omega
  have hbn : Below W2.heap.size W2 (W2.alloc (tmBox (at' h i))) := (Below.refl _ _).alloc (Nat.le_refl _) _
  have r3 := r2.later hbn
  have hR3 := hR2.later hbn
  have hF3 := hF2.later hbn
  have hG3 := TmBk.new (at' h i) W2
  have hG0 : R < W2.heap.size := hR2.lt
  have hTW : T < W2.heap.size := by omega
  have hMW : M < W2.heap.size := by omega
  have hgW : g < W2.heap.size := by omega
  have hcapE : E ≤ cap := by
    rcases hrow2.2 with ⟨he, _⟩ | ⟨_, _, _, he, _, _, k3, _⟩
    · cases he
    · cases he; omega
  have hsl := slice_toT g h.length cap E hcapE
  clear b3 hrow2 r1 hR hF1 hF12 r2 hR2 hF2 hTC hTl hbn cT
  generalize hGG : W2.heap.size = G at hG3 hG0 hTW hMW hgW
  have hGG' := (show Hid _ from hGG)
  clear hGG
  have cG := hG3.cell
  have b0 := r3.blk.cell.1
  have fT := r3.blk.free 0
  have hg34 : (W2.alloc (tmBox (at' h i))).grownBy ((W2.alloc (tmBox (at' h i))).setCell ⟨T, 0, none⟩ (.slice (some ⟨g, 0, none⟩) E cap)) (some T) := grown_st (grown_rfl _ _) 0 _
  have hB4 := r3.blk.set (.slice (some ⟨g, 0, none⟩) E cap)
  have hrow3 := r3.row
  rw [hsl2] at hrow3
  have hrow4 := (row_take hrow3 (Nat.le_of_lt hEl)).kept hg34 (.inr (by simp [Value.ownBlock]; exact fun e => hTg e.symm))
  rw [← TC_take] at hrow4
  have hout : (sw h i E).take E = out h i := by unfold out; rw [hE'.out]
  rw [hout] at hrow4
  obtain ⟨f, hm3, hp3⟩ := r3.map
  rw [hsl2] at hm3
  have hm4 := hm3.kept hg34 (by simpa using hap.1.symm)
  have hfE := hp3.1 E _ (at_get hEl2)
  rw [hxE] at hfE
  have hp5 := hp3.cut (n := E) (by rw [hsl2]; have := hE'.out; omega)
  rw [hout, hxE] at hp5
  have hok5 : ∀ y ∈ out h i, TOk y := fun y hy => r3.ok y (by rw [← hout] at hy; exact List.mem_of_mem_take hy)
  have hR4 := hR3.grown hg34 (by simpa using hRa.1)
  have hG4 := hG3.grown hg34 (by simp; omega)
  have hF4 := hF3.trans (Fr.grown (T := T) (M := M) (v := .slice (some ⟨g, 0, none⟩) h.length cap) hg34 (.inr (.inl rfl))) (.inl rfl)
  have hbT := r3.bT
  have hbM := r3.bM
  have hperm := out_perm hi
  have hol : (out h i).length = E := by rw [out_length]; exact hE'.out
  clear hg34 r3 hR3 hG3 hF3 hrow3 hm3 hp3
  dsimp only [tmBox] at hB4 hrow4 hm4 hR4 hG4 hF4 b0 fT cG
  go_wp2_with fail
  clear d0 d1 d2 c0 cG b0 fT hsl
  rw [hGG'.out]
  generalize World.setCell _ _ _ = W4 at hB4 hrow4 hm4 hR4 hG4 hF4 ⊢
  obtain ⟨_, b1, _⟩ := hB4.cell
  obtain ⟨_, g1, _⟩ := hG4.cell
  obtain ⟨W5, hr5, hm5, hg5⟩ := (show MapI W4.drew M f h.length from hm4).del hidx 0 (by rw [hfE]; rfl)
  go_region
  clear g1 b1
  have hg5' : W4.grownBy W5 (some M) := ⟨hg5.os, hg5.tape, hg5.output, hg5.size, hg5.block⟩
  rw [hE'.out] at hm5
  have r5 : TR base T M last (out h i) (.slice (some ⟨g, 0, none⟩) E cap) W5 := by
    refine ⟨hB4.kept hg5' (by simpa using hap.1), ?_, ⟨_, ?_, hp5⟩, hok5, hbT, hbM⟩
    · rw [hol]
      exact hrow4.kept hg5' (.inr (by simp [Value.ownBlock]; exact fun e => hMg e.symm))
    · rw [hol]
      exact hm5
  have hR5 := hR4.grown hg5' (by simpa using hRa.2.1)
  have hG5 := hG4.grown hg5' (by simp; omega)
  have hF5 := hF4.trans (Fr.grown (T := T) (M := M) (v := .slice (some ⟨g, 0, none⟩) h.length cap) hg5' (.inr (.inr (.inl rfl)))) (.inl rfl)
  have hfin : ∀ (h7 : List Tm) (W7 : World), TR base T M last h7 (.slice (some ⟨g, 0, none⟩) E cap) W7 → TmBk R z W7 → Fr T M (.slice (some ⟨g, 0, none⟩) h.length cap) w W7 → h7.Perm (out h i) → Heap h7 →
      TmBk R (at' h i) (storeT W7 R (at' h i)) ∧ ∃ h' v', TR base T M last h' v' (storeT W7 R (at' h i)) ∧ Fr T M (.slice (some ⟨g, 0, none⟩) h.length cap) w (storeT W7 R (at' h i)) ∧ v'.ownBlock = (Value.slice (some ⟨g, 0, none⟩) h.length cap).ownBlock ∧ (at' h i :: h').Perm h ∧ Heap h' := by
    intro h7 W7 r7 hR7 hF7 hp7 hH7
    have hgs := grown_storeT W7 R (at' h i)
    refine ⟨hR7.store _, h7, _, r7.grown hgs (by simp; omega) (by simp; omega) (.inr (by simp [Value.ownBlock]; omega)), ?_, rfl, (hp7.cons _).trans hperm, hH7⟩
    refine ⟨hgs.os.trans hF7.os, hgs.tape.trans hF7.tape, hgs.output.trans hF7.output, Nat.le_trans hF7.size hgs.size, fun k hk h1 h2 h3 => ?_⟩
    rw [hgs.block k (Nat.lt_of_lt_of_le hk hF7.size) (by rw [hRR'.out] at hk; simp; omega)]
    exact hF7.block k hk h1 h2 h3
  clear hB4 hrow4 hm4 hR4 hG4 hF4 hm5 hr5 hg5 hg5' hp5 hok5 hperm
  by_cases hiE : i < E
  · have hdi : decide (i < E) = true := decide_eq_true hiE
    have hBo := out_both hb (show i < h.length - 1 by rw [hE'.out]; exact hiE)
    go_wp2_with fail
    refine (rise_any base T M last (out h i) _ _ r5 i (by rw [hol]; exact hiE) (by omega) hBo).mono ?_
    rintro e W6 ⟨rfl, h6, r6, hF56, hp6, hD6⟩
    have hl6 : h6.length = E := by rw [hp6.length_eq]; exact hol
    have hR6 := hR5.fr hF56 hRa.1 hRa.2.1 (by simp only [Value.ownBlock]; intro e; cases e; exact hRa.2.2 rfl)
    have hG6 := hG5.fr hF56 (by omega) (by omega) (by simp only [Value.ownBlock]; intro e; cases e; omega)
    have hF6 := hF5.trans hF56 (.inl rfl)
    clear r5 hR5 hG5 hF5 hF56
    go_wp2_with fail
    refine (sink_any base T M last h6 _ _ r6 i (by omega) (by omega) hD6).mono ?_
    rintro e W7 ⟨rfl, h7, r7, hF67, hp7, hH7⟩
    have hR7 := hR6.fr hF67 hRa.1 hRa.2.1 (by simp only [Value.ownBlock]; intro e; cases e; exact hRa.2.2 rfl)
    have hG7 := hG6.fr hF67 (by omega) (by omega) (by simp only [Value.ownBlock]; intro e; cases e; omega)
    have hF7 := hF6.trans hF67 (.inl rfl)
    have hend := hfin h7 W7 r7 hR7 hF7 (hp7.trans hp6) hH7
    obtain ⟨g0, g1, g2⟩ := hG7.cell
    obtain ⟨z0, z1, z2⟩ := hR7.cell
    have zf := hR7.free
    have hRl := hR7.lt
    clear r6 hR6 hG6 hF6 hF67 hfin r7 hF7 hD6 hp6 hp7 hH7 hl6
    dsimp only [storeT, z] at hend z0 z1 z2
    go_wp2
    generalize World.setCell _ _ _ = W8 at hend ⊢
    obtain ⟨hE8, hrest⟩ := hend
    obtain ⟨q0, q1, q2⟩ := hE8.cell
    exact bodyPost_ret (v := tmV (at' h i)) (by simp [results, Try.results52, go_sem, q0, q1, q2]) rfl ⟨rfl, hrest⟩
  · have hdi : decide (i < E) = false := decide_eq_false hiE
    have hHo : Heap (out h i) := by
      have := out_last hb (by omega)
      rw [show h.length - 1 = i by have := hE'.out; omega] at this
      exact this
    have hend := hfin (out h i) W5 r5 hR5 hF5 (List.Perm.refl _) hHo
    obtain ⟨g0, g1, g2⟩ := hG5.cell
    obtain ⟨z0, z1, z2⟩ := hR5.cell
    have zf := hR5.free
    have hRl := hR5.lt
    clear hfin r5 hF5 hHo
    dsimp only [storeT, z] at hend z0 z1 z2
    go_wp2
    generalize World.setCell _ _ _ = W8 at hend ⊢
    obtain ⟨hE8, hrest⟩ := hend
    obtain ⟨q0, q1, q2⟩ := hE8.cell
    exact bodyPost_ret (v := tmV (at' h i)) (by simp [results, Try.results52, go_sem, q0, q1, q2]) rfl ⟨rfl, hrest⟩
end Go.Proofs.Ytjkjepoeiabpiaa
