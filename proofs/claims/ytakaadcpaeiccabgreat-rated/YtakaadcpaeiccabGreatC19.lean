import Derived.Test.YtakaadcpaeiccabGreatC18
import Derived.Test.YtakaadcpaeiccabGreatC03
import Derived.BigRegion
import Derived.Deep.RegionHeld3
namespace Go.Proofs.YtakaadcpaeiccabGreat
open Go.RowKit Go.Maps

set_option maxRecDepth 100000 in
set_option maxHeartbeats 4000000 in
theorem seen_add (N : Nat) (x : NdV) (E : List Mm) (q : Int × Int) (hq : QOk q) (til : Int) (h0 : 0 ≤ til) (hm : ∀ e ∈ E, e.til ≤ til) (htn : x.tn ≤ 4611686018427387904) (w : World) (hN : NdB N x w) (hs : SnM x.Ms x.tn E w) :
    Calls Tryz.prog 156 #[.pointer (some ⟨N, 8, none⟩), encQ q, .int .u64 til] w fun e w' => e = .returned (.tuple #[]) ∧ NdB N { x with tn := x.tn + 1 } w' ∧ SnM x.Ms (x.tn + 1) (seenAdd E q til x.tn) w' ∧ Fx (fun k => k = N ∨ k = x.Ms) w w' := by
  obtain ⟨g, h1, h2, h3⟩ := hs.map
  have hl16 := hs.len
  have htn0 := hs.tn0
  have hNM : N ≠ x.Ms := fun e => by
    obtain ⟨es, cl, hM⟩ := hs.obj
    rw [← e, show w.heap[N]? = _ from hN] at hM
    cases hM
  have hb0 : Below w.heap.size w (w.alloc (qBox q)) := (Below.refl _ _).alloc (Nat.le_refl _) _
  have hC := heap_alloc_new w (qBox q)
  have hN1 := hN.later hb0
  have hg1 := h1.block (hb0.block _ h1.lt)
  have hF1 : Fx (fun k => k = N ∨ k = x.Ms) w (w.alloc (qBox q)) := Fx.below hb0
  have hCl : w.heap.size < (w.alloc (qBox q)).heap.size := by simp
  have hne : w.heap.size ≠ N ∧ w.heap.size ≠ x.Ms := ⟨fun e => by have := hN.lt; omega, fun e => by have := hs.lt; omega⟩
  have HP := (show Hid _ from fun W' hM => SnM.put (W' := W') hs h2 h3 hq h0 hm hM)
  clear hs hN h1 h2 h3 hm
  dsimp only [qBox] at hb0 hC hN1 hg1 hF1 hCl
  dsimp only [encQ]
  have hsa : Hid (seenAdd E q til x.tn = if 16 < (seenPut E q til x.tn).length then (seenPut E q til x.tn).tail else seenPut E q til x.tn) := rfl
  generalize seenAdd E q til x.tn = R at hsa ⊢
  go_enter Tryz.func156, Tryz.ntmps156
  go_upto_region 1 with (fail)
  generalize World.alloc _ _ = W1 at hb0 hC hN1 hg1 hF1 hCl ⊢
  generalize w.heap.size = C at hC hCl hne ⊢
  obtain ⟨n0, n2, n3, n4, n5, n6, n7, n8, n9, n10⟩ := hN1.cell
  have c0 : W1.cell? ⟨C, 0, none⟩ = some (.int .u32 q.1) := cell_of_row _ _ 0 _ _ _ hC
  have c1 : W1.cell? ⟨C, 1, none⟩ = some (.int .u32 q.2) := cell_of_row _ _ 1 _ _ _ hC
  obtain ⟨W3, hr3, hm3, hgr3⟩ := (show MapQ W1.drew _ _ _ from hg1).put (by unfold maxLen; omega) hq (til, x.tn)
  dsimp only [encQ, encM] at hr3
  have hgr3' : W1.grownBy W3 (some x.Ms) := ⟨hgr3.os, hgr3.tape, hgr3.output, hgr3.size, hgr3.block⟩
  have hN3 := hN1.kept hgr3' (by simpa using Ne.symm hNM)
  have hF3 := hF1.trans (Fx.grown (S := fun k => k = x.Ms) hgr3' (fun k e => by cases e; rfl)) (fun i _ h => .inr h)
  have hP3 := HP.out W3 hm3
  clear hg1 hN1 hF1 hm3 HP hC hb0
  go_region
  clear n0 n2 n3 n4 n5 n6 n7 n8 n9 n10 c0 c1 hr3 hgr3 hgr3'
  obtain ⟨g', k1, k2, k3, k4, k5, k6⟩ := hP3
  generalize seenPut E q til x.tn = L at k1 k2 k3 k4 k5 k6 hsa
  obtain ⟨n0, n2, n3, n4, n5, n6, n7, n8, n9, n10⟩ := hN3.cell
  have f9 := hN3.free 9
  have hg4 : W3.grownBy (W3.setCell ⟨N, 9, none⟩ (.int .i64 (x.tn + 1))) (some N) := grown_cellOf (grown_self _ (some N)) 9 _
  have hN4 := hN3.setTn (x.tn + 1)
  have k14 := k1.block (hg4.block _ k1.lt (by simpa using Ne.symm hNM))
  have hF4 := hF3.trans (Fx.grown (S := fun k => k = N) hg4 (fun k e => by cases e; rfl)) (fun i _ h => .inl h)
  have hwr : wrap64 (x.tn + 1) = x.tn + 1 := by unfold wrap64; omega
  clear hN3 k1 hF3 hg4
  go_upto_region 3 with (fail)
  generalize World.setCell _ _ _ = W4 at hN4 k14 hF4 ⊢
  clear n0 n2 n3 n4 n5 n6 n7 n8 n9 n10 f9 hwr
  obtain ⟨n0, n2, n3, n4, n5, n6, n7, n8, n9, n10⟩ := hN4.cell
  have hlen := fun ty => k14.len ty
  generalize hnl : L.length = nl at hlen
  replace hnl := (show Hid _ from hnl)
  by_cases hl : 16 < L.length
  · have hlb : decide ((16 : Int) < (nl : Int)) = true := decide_eq_true (by have := hnl.out; omega)
    have hR := hsa.out
    rw [if_pos hl] at hR
    subst hR
    obtain ⟨e0, L', rfl⟩ : ∃ e0 L', L = e0 :: L' := by
      cases L with
      | nil => simp at hl
      | cons a b => exact ⟨a, b, rfl⟩
    have HF : Hid (∀ W5, Below W4.heap.size W4 W5 → Calls Tryz.prog 178 #[.pointer (some ⟨N, 8, none⟩)] W5 fun e w' => e = .returned (encQ e0.key) ∧ Below W4.heap.size W4 w') := by
      intro W5 h5
      refine (first_any17 N { x with tn := x.tn + 1 } e0 L' W5 (hN4.later h5) ⟨_, k14.block (h5.block _ k14.lt), k2, k3⟩ k4 k5).mono ?_
      rintro e w' ⟨rfl, hb⟩
      exact ⟨rfl, h5.trans (hb.mono h5.size)⟩
    have HD : Hid (∀ W5, Below W4.heap.size W4 W5 → W5.cell? ⟨N, 8, none⟩ = some (.map (some x.Ms)) ∧ ∃ W6, (Builtin.delete_ #[111, 261] 0 #[.map (some x.Ms), encQ e0.key]).run Tryz.prog W5 = .ok (.tuple #[]) W6 ∧ W6.cell? ⟨N, 8, none⟩ = some (.map (some x.Ms)) ∧ NdB N { x with tn := x.tn + 1 } W6 ∧ SnM x.Ms (x.tn + 1) L' W6 ∧ Fx (fun k => k = N ∨ k = x.Ms) w W6) := by
      intro W5 h5
      have hM5 := k14.block (h5.block _ k14.lt)
      obtain ⟨W6, hr6, hm6, hg6⟩ := hM5.del (k4 e0 (List.mem_cons_self ..)).1 0 (by rw [k2 e0 (List.mem_cons_self ..)]; rfl)
      have hN6 := (hN4.later h5).kept hg6 (by simpa using Ne.symm hNM)
      exact ⟨(hN4.later h5).cell.2.2.2.2.2.1, W6, hr6, hN6.cell.2.2.2.2.2.1, hN6, snM_del k2 k3 k4 k5 k6 (by omega) hm6, (hF4.trans (Fx.below (S := fun _ => False) h5) (fun _ _ h => h.elim)).trans (Fx.grown (S := fun k => k = x.Ms) hg6 (fun k e => by cases e; rfl)) (fun i _ h => .inr h)⟩
    clear hN4 k14 hF4 k2 k3 k4 k5 k6 hl
    dsimp only [encQ] at HF HD
    go_wp2_with fail
    go_region_law (first
      | (go_simp; go_at_call 178; refine (HF.out _ (by first | exact Below.refl _ _ | exact (Below.refl _ _).drew | exact below_drewN (Below.refl _ _) _)).mono ?_; rintro e w5 ⟨rfl, hb5⟩; obtain ⟨hc5, W6, hr6, hc6, hN6, hS6, hF6⟩ := HD.out _ hb5))
    all_goals
      go_wp2
      go_returns
      exact ⟨rfl, hN6, hS6, hF6⟩
  · have hlb : decide ((16 : Int) < (nl : Int)) = false := decide_eq_false (by have := hnl.out; omega)
    have hR := hsa.out
    rw [if_neg hl] at hR
    replace hR := (show Hid _ from hR)
    have hfin : SnM x.Ms (x.tn + 1) L W4 := ⟨⟨g', k14, k2, k3⟩, k4, k5, by omega, by omega⟩
    clear k14 k2 k3 k4 k5 k6 hl
    go_wp2
    go_returns
    exact ⟨rfl, hN4, hR.out ▸ hfin, hF4⟩
end Go.Proofs.YtakaadcpaeiccabGreat

namespace Go.Proofs.YtakaadcpaeiccabGreat
open Go.RowKit Go.Maps
open Hp

/-- The map tells where each stands. -/
def PI (h : List Tm) (f : Int → Option Nat) : Prop :=
  (∀ i x, h[i]? = some x → f x.2.1 = some i) ∧ ∀ k i, f k = some i → ∃ x, h[i]? = some x ∧ x.2.1 = k
theorem PI.sw {h : List Tm} {f : Int → Option Nat} (p : PI h f) {i j : Nat} (hi : i < h.length) (hj : j < h.length) :
    PI (sw h i j) (upd (upd f (at' h j).2.1 (some i)) (at' h i).2.1 (some j)) := by
  have pi := p.1 i _ (at_get hi)
  have pj := p.1 j _ (at_get hj)
  have hs := at_sw hi hj
  constructor
  · intro k x hx
    have hk : k < h.length := by
      rcases Nat.lt_or_ge k (Hp.sw h i j).length with a | a
      · rw [sw_length] at a; exact a
      · rw [List.getElem?_eq_none a] at hx; cases hx
    have e := at_some hx
    rw [hs] at e
    by_cases h1 : k = j
    · rw [if_pos h1] at e
      rw [← e, h1]
      simp [upd]
    · rw [if_neg h1] at e
      by_cases h2 : k = i
      · rw [if_pos h2] at e
        rw [← e, h2]
        unfold upd
        by_cases h3 : (at' h j).2.1 = (at' h i).2.1
        · rw [h3, pi] at pj
          cases pj
          exact absurd h2 h1
        · rw [if_neg h3, if_pos rfl]
      · rw [if_neg h2] at e
        have pk := p.1 k _ (at_get hk)
        rw [e] at pk
        unfold upd
        by_cases h3 : x.2.1 = (at' h i).2.1
        · rw [h3, pi] at pk
          cases pk
          exact absurd rfl h2
        · rw [if_neg h3]
          by_cases h4 : x.2.1 = (at' h j).2.1
          · rw [h4, pj] at pk
            cases pk
            exact absurd rfl h1
          · rw [if_neg h4, pk]
  · intro k n hn
    unfold upd at hn
    have hl : (Hp.sw h i j).length = h.length := sw_length h i j
    by_cases h1 : k = (at' h i).2.1
    · rw [if_pos h1] at hn
      cases hn
      exact ⟨_, at_get (by omega), by rw [hs, if_pos rfl, h1]⟩
    · rw [if_neg h1] at hn
      by_cases h2 : k = (at' h j).2.1
      · rw [if_pos h2] at hn
        cases hn
        refine ⟨_, at_get (by omega), ?_⟩
        rw [hs, if_pos rfl]
        by_cases h3 : i = j
        · subst h3
          exact absurd h2 h1
        · rw [if_neg h3, h2]
      · rw [if_neg h2] at hn
        obtain ⟨x, hx, hk⟩ := p.2 k n hn
        have hnl : n < h.length := by
          rcases Nat.lt_or_ge n h.length with a | a
          · exact a
          · rw [List.getElem?_eq_none a] at hx; cases hx
        refine ⟨x, ?_, hk⟩
        rw [at_get (by omega), hs]
        have e := at_some hx
        rw [if_neg (by rintro rfl; rw [e] at h2; exact h2 hk.symm), if_neg (by rintro rfl; rw [e] at h1; exact h1 hk.symm), e]
theorem PI.add {h : List Tm} {f : Int → Option Nat} (p : PI h f) {x : Tm} (hx : f x.2.1 = none) : PI (h ++ [x]) (upd f x.2.1 (some h.length)) := by
  constructor
  · intro i y hy
    unfold upd
    by_cases hi : i < h.length
    · rw [List.getElem?_append_left hi] at hy
      have := p.1 i y hy
      rw [if_neg (fun e => by rw [e, hx] at this; cases this), this]
    · rw [List.getElem?_append_right (by omega)] at hy
      have : i - h.length = 0 := by
        rcases Nat.eq_zero_or_pos (i - h.length) with a | a
        · exact a
        · rw [List.getElem?_eq_none (by simp; omega)] at hy; cases hy
      rw [this] at hy
      simp at hy
      subst hy
      rw [if_pos rfl]
      congr 1
      omega
  · intro k i hk
    unfold upd at hk
    by_cases e : k = x.2.1
    · rw [if_pos e] at hk
      cases hk
      exact ⟨x, by simp, e.symm⟩
    · rw [if_neg e] at hk
      obtain ⟨y, hy, he⟩ := p.2 k i hk
      have hi : i < h.length := by
        rcases Nat.lt_or_ge i h.length with a | a
        · exact a
        · rw [List.getElem?_eq_none a] at hy; cases hy
      exact ⟨y, by rw [List.getElem?_append_left hi]; exact hy, he⟩
theorem PI.cut {h : List Tm} {f : Int → Option Nat} (p : PI h f) {n : Nat} (hn : h.length = n + 1) : PI (h.take n) (upd f (at' h n).2.1 none) := by
  have pn := p.1 n _ (at_get (by omega))
  constructor
  · intro i x hx
    rw [List.getElem?_take] at hx
    split at hx
    · rename_i hi
      have pi := p.1 i x hx
      unfold upd
      rw [if_neg (fun e => by rw [e, pn] at pi; cases pi; omega), pi]
    · cases hx
  · intro k i hk
    unfold upd at hk
    split at hk
    · cases hk
    · rename_i e
      obtain ⟨x, hx, he⟩ := p.2 k i hk
      refine ⟨x, ?_, he⟩
      rw [List.getElem?_take]
      split
      · exact hx
      · rename_i hi
        have hil : i < h.length := by
          rcases Nat.lt_or_ge i h.length with a | a
          · exact a
          · rw [List.getElem?_eq_none a] at hx; cases hx
        obtain rfl : i = n := by omega
        rw [at_some hx] at e
        exact absurd he.symm e

/-- Timers as cells. -/
def tmC (x : Tm) : List Value := [.int .u64 x.1, .int .i64 x.2.1, .int .i64 x.2.2]
def TC (h : List Tm) : List Value := h.flatMap tmC
theorem TC_length (h : List Tm) : (TC h).length = h.length * 3 := flat_length tmC 3 (fun _ => rfl) h
theorem TC_at {h : List Tm} {i : Nat} (hi : i < h.length) : (TC h)[i * 3]? = some (.int .u64 (at' h i).1) ∧ (TC h)[i * 3 + 1]? = some (.int .i64 (at' h i).2.1) ∧ (TC h)[i * 3 + 2]? = some (.int .i64 (at' h i).2.2) :=
  ⟨flat_at tmC 3 (by decide) (fun _ => rfl) h i 0 (by decide) (at_get hi), flat_at tmC 3 (by decide) (fun _ => rfl) h i 1 (by decide) (at_get hi), flat_at tmC 3 (by decide) (fun _ => rfl) h i 2 (by decide) (at_get hi)⟩
theorem TC_append (a b : List Tm) : TC (a ++ b) = TC a ++ TC b := by simp [TC]

/-- What a timer's numbers may be. -/
def TOk (x : Tm) : Prop := (0 ≤ x.1 ∧ x.1 < 18446744073709551616) ∧ I64 x.2.1 ∧ I64 x.2.2

/-- A block that is the struct of timers. -/
def TBk (T M : Nat) (last : Int) (v : Value) (W : World) : Prop := W.heap[T]? = some (.cells #[v, .map (some M), .int .i64 last] 165)
theorem TBk.cell {T M : Nat} {last : Int} {v : Value} {W : World} (h : TBk T M last v W) :
    W.cell? ⟨T, 0, none⟩ = some v ∧ W.cell? ⟨T, 1, none⟩ = some (.map (some M)) ∧ W.cell? ⟨T, 2, none⟩ = some (.int .i64 last) :=
  ⟨cell_of_row W T 0 _ _ _ h, cell_of_row W T 1 _ _ _ h, cell_of_row W T 2 _ _ _ h⟩
theorem TBk.free {T M : Nat} {last : Int} {v : Value} {W : World} (h : TBk T M last v W) (i : Nat) : W.frozen? ⟨T, i, none⟩ = false := by
  unfold TBk at h
  simp [World.frozen?, h]
theorem TBk.lt {T M : Nat} {last : Int} {v : Value} {W : World} (h : TBk T M last v W) : T < W.heap.size := (Array.getElem?_eq_some_iff.1 h).1

/-- Timers, laid in memory: the heap h, in the slice v. -/
structure TR (base T M : Nat) (last : Int) (h : List Tm) (v : Value) (W : World) : Prop where
  blk : TBk T M last v W
  row : W.ownsRow base 254 3 v h.length (TC h)
  map : ∃ f, MapI W M f h.length ∧ PI h f
  ok : ∀ x ∈ h, TOk x
  bT : base ≤ T
  bM : base ≤ M
theorem TR.shape {base T M : Nat} {last : Int} {h : List Tm} {v : Value} {W : World} (r : TR base T M last h v W) (h0 : 0 < h.length) : ∃ g cap, v = .slice (some ⟨g, 0, none⟩) h.length cap ∧ base ≤ g := by
  refine row_shape' r.row h0
/-- The blocks of timers are three. -/
theorem TR.apart {base T M : Nat} {last : Int} {h : List Tm} {v : Value} {W : World} (r : TR base T M last h v W) : T ≠ M ∧ some T ≠ v.ownBlock ∧ some M ≠ v.ownBlock := by
  have hb := r.blk
  obtain ⟨f, ⟨D, ⟨es, clock, hm, _⟩, _⟩, _⟩ := r.map
  refine ⟨?_, ?_, ?_⟩
  · rintro rfl
    unfold TBk at hb
    rw [hb] at hm
    cases hm
  · intro e
    rcases r.row.2 with ⟨rfl, _⟩ | ⟨g, cap, cur, rfl, _, hg, _⟩
    · simp [Value.ownBlock] at e
    · simp [Value.ownBlock] at e
      subst e
      unfold TBk at hb
      rw [hb] at hg
      simp at hg
  · intro e
    rcases r.row.2 with ⟨rfl, _⟩ | ⟨g, cap, cur, rfl, _, hg, _⟩
    · simp [Value.ownBlock] at e
    · simp [Value.ownBlock] at e
      subst e
      rw [hm] at hg
      cases hg

/-- What a call on timers may turn. -/
structure Fr (T M : Nat) (v : Value) (W W' : World) : Prop where
  os : W'.os = W.os
  tape : W'.tape = W.tape
  output : W'.output = W.output
  size : W.heap.size ≤ W'.heap.size
  block : ∀ k, k < W.heap.size → k ≠ T → k ≠ M → some k ≠ v.ownBlock → W'.heap[k]? = W.heap[k]?
theorem Fr.refl (T M : Nat) (v : Value) (W : World) : Fr T M v W W := ⟨rfl, rfl, rfl, Nat.le_refl _, fun _ _ _ _ _ => rfl⟩
theorem Fr.trans {T M : Nat} {v v' : Value} {W W1 W2 : World} (a : Fr T M v W W1) (b : Fr T M v' W1 W2) (hv : v'.ownBlock = v.ownBlock ∨ ∀ k, v'.ownBlock = some k → W.heap.size ≤ k) : Fr T M v W W2 := by
  refine ⟨b.os.trans a.os, b.tape.trans a.tape, b.output.trans a.output, Nat.le_trans a.size b.size, fun k hk h1 h2 h3 => ?_⟩
  rw [b.block k (Nat.lt_of_lt_of_le hk a.size) h1 h2 ?_]
  · exact a.block k hk h1 h2 h3
  · rcases hv with hv | hv
    · rw [hv]; exact h3
    · intro e
      have := hv k e.symm
      omega
theorem Fr.grown {T M : Nat} {v : Value} {W W' : World} {r : Option Nat} (h : W.grownBy W' r) (hr : r = none ∨ r = some T ∨ r = some M ∨ r = v.ownBlock) : Fr T M v W W' := by
  refine ⟨h.os, h.tape, h.output, h.size, fun k hk h1 h2 h3 => h.block k hk ?_⟩
  rcases hr with rfl | rfl | rfl | rfl
  · simp
  · simpa using h1
  · simpa using h2
  · exact h3
theorem Fr.below {base T M : Nat} {v : Value} {W W' : World} (h : Fr T M v W W') (hT : base ≤ T) (hM : base ≤ M) (hv : ∀ k, v.ownBlock = some k → base ≤ k) (hb : base ≤ W.heap.size) : Below base W W' :=
  ⟨h.os, h.tape, h.output, h.size, fun k hk => h.block k (by omega) (by omega) (by omega) (fun e => by have := hv k e.symm; omega)⟩
end Go.Proofs.YtakaadcpaeiccabGreat

namespace Go.Proofs.YtakaadcpaeiccabGreat
open Go.RowKit Go.Maps
open Hp

theorem TC_set : ∀ (h : List Tm) (i : Nat) (x : Tm), (((TC h).set (i * 3) (.int .u64 x.1)).set (i * 3 + 1) (.int .i64 x.2.1)).set (i * 3 + 2) (.int .i64 x.2.2) = TC (h.set i x)
  | [], i, x => by simp [TC]
  | a :: h, 0, x => by simp [TC, tmC]
  | a :: h, i + 1, x => by
    have ih := TC_set h i x
    simp only [TC, List.flatMap_cons, List.set_cons_succ] at ih ⊢
    rw [← ih]
    simp only [tmC, List.cons_append, List.nil_append, show (i + 1) * 3 = i * 3 + 1 + 1 + 1 by omega, List.set_cons_succ]
theorem TBk.kept {T M : Nat} {last : Int} {v : Value} {W W' : World} {r : Option Nat} (h : TBk T M last v W) (hg : W.grownBy W' r) (hne : some T ≠ r) : TBk T M last v W' := (hg.block T h.lt hne).trans h
theorem grown_st {A B : World} {g : Nat} (h : A.grownBy B (some g)) (j : Nat) (v : Value) : A.grownBy (B.setCell ⟨g, j, none⟩ v) (some g) :=
  ⟨h.os, h.tape, h.output, by simpa using h.size, fun i hi hne => (Below.heap_setCell B ⟨g, j, none⟩ v i (fun e => hne (by rw [e]))).trans (h.block i hi hne)⟩
theorem grown_dr {A B : World} {r : Option Nat} (h : A.grownBy B r) : A.grownBy B.drew r := ⟨h.os, h.tape, h.output, h.size, h.block⟩
theorem grown_rfl (A : World) (r : Option Nat) : A.grownBy A r := ⟨rfl, rfl, rfl, Nat.le_refl _, fun _ _ _ => rfl⟩
theorem ok_id {base T M : Nat} {last : Int} {h : List Tm} {v : Value} {W : World} (r : TR base T M last h v W) {i : Nat} (hi : i < h.length) : I64 (at' h i).2.1 :=
  (r.ok _ (List.mem_of_getElem? (at_get hi))).2.1

set_option maxRecDepth 100000 in
set_option maxHeartbeats 4000000 in
theorem swap_ne (base T M : Nat) (last : Int) (h : List Tm) (v : Value) (w : World) (r : TR base T M last h v w) (i j : Nat) (hi : i < h.length) (hj : j < h.length) (hij : i ≠ j) (hn : h.length ≤ 1000000) :
    Calls Tryz.prog 174 #[.pointer (some ⟨T, 0, none⟩), .int .i64 i, .int .i64 j] w fun e w' => e = .returned (.tuple #[]) ∧ TR base T M last (sw h i j) v w' ∧ Fr T M v w w' := by
  obtain ⟨g, cap, rfl, hg⟩ := r.shape (by omega)
  obtain ⟨c0, c1, c2⟩ := r.blk.cell
  have ai := TC_at hi
  have aj := TC_at hj
  have hl := TC_length h
  have i0 := (r.row.cellAt (i * 3) (by omega)).trans ai.1
  have i1 := (r.row.cellAt (i * 3 + 1) (by omega)).trans ai.2.1
  have i2 := (r.row.cellAt (i * 3 + 2) (by omega)).trans ai.2.2
  have j0 := (r.row.cellAt (j * 3) (by omega)).trans aj.1
  have j1 := (r.row.cellAt (j * 3 + 1) (by omega)).trans aj.2.1
  have j2 := (r.row.cellAt (j * 3 + 2) (by omega)).trans aj.2.2
  have f0 := r.row.frozenAt (i * 3)
  have f1 := r.row.frozenAt (i * 3 + 1)
  have f2 := r.row.frozenAt (i * 3 + 2)
  have f3 := r.row.frozenAt (j * 3)
  have f4 := r.row.frozenAt (j * 3 + 1)
  have f5 := r.row.frozenAt (j * 3 + 2)
  have hin : (i : Int) < (h.length : Int) := by omega
  have hjn : (j : Int) < (h.length : Int) := by omega
  have n00 : ¬ i * 3 = j * 3 := by omega
  have n01 : ¬ i * 3 = j * 3 + 1 := by omega
  have n02 : ¬ i * 3 = j * 3 + 2 := by omega
  have n10 : ¬ i * 3 + 1 = j * 3 := by omega
  have n11 : ¬ i * 3 + 1 = j * 3 + 1 := by omega
  have n12 : ¬ i * 3 + 1 = j * 3 + 2 := by omega
  have n20 : ¬ i * 3 + 2 = j * 3 := by omega
  have n21 : ¬ i * 3 + 2 = j * 3 + 1 := by omega
  have n22 : ¬ i * 3 + 2 = j * 3 + 2 := by omega
  have hTg : ¬ T = g := fun e => r.apart.2.1 (by rw [e]; rfl)
  generalize hx : at' h i = x at i0 i1 i2
  generalize hy : at' h j = y at j0 j1 j2
  have hx' := (show Hid _ from hx)
  have hy' := (show Hid _ from hy)
  clear hx hy ai aj hl
  obtain ⟨f, hm, hp⟩ := r.map
  have hap := r.apart
  have hidx := ok_id r hi
  have hidy := ok_id r hj
  rw [hx'.out] at hidx
  rw [hy'.out] at hidy
  have hi64 : I64 (i : Int) := by unfold I64; omega
  have hj64 : I64 (j : Int) := by unfold I64; omega
  have hpi := hp.1 i _ (at_get hi)
  have hpj := hp.1 j _ (at_get hj)
  have hpsw := hp.sw hi hj
  rw [hx'.out] at hpi hpsw
  rw [hy'.out] at hpj hpsw
  have hrow : (((((((w.setCell ⟨g, i * 3, none⟩ (.int .u64 y.1)).setCell ⟨g, i * 3 + 1, none⟩ (.int .i64 y.2.1)).setCell ⟨g, i * 3 + 2, none⟩ (.int .i64 y.2.2)).setCell ⟨g, j * 3, none⟩ (.int .u64 x.1)).setCell ⟨g, j * 3 + 1, none⟩ (.int .i64 x.2.1)).setCell ⟨g, j * 3 + 2, none⟩ (.int .i64 x.2.2)).drew).ownsRow base 254 3 (.slice (some ⟨g, 0, none⟩) h.length cap) h.length (TC (Hp.sw h i j)) := by
    have e := ((((((r.row.stored (i * 3) (.int .u64 y.1)).1.stored (i * 3 + 1) (.int .i64 y.2.1)).1.stored (i * 3 + 2) (.int .i64 y.2.2)).1.stored (j * 3) (.int .u64 x.1)).1.stored (j * 3 + 1) (.int .i64 x.2.1)).1.stored (j * 3 + 2) (.int .i64 x.2.2)).1
    rw [TC_set, TC_set] at e
    have es : (h.set i y).set j x = Hp.sw h i j := by
      unfold Hp.sw
      rw [hx'.out, hy'.out]
    rw [es] at e
    exact e.drew
  have hgr : w.grownBy (((((((w.setCell ⟨g, i * 3, none⟩ (.int .u64 y.1)).setCell ⟨g, i * 3 + 1, none⟩ (.int .i64 y.2.1)).setCell ⟨g, i * 3 + 2, none⟩ (.int .i64 y.2.2)).setCell ⟨g, j * 3, none⟩ (.int .u64 x.1)).setCell ⟨g, j * 3 + 1, none⟩ (.int .i64 x.2.1)).setCell ⟨g, j * 3 + 2, none⟩ (.int .i64 x.2.2)).drew) (some g) := by
    have e := grown_st (grown_st (grown_st (grown_st (grown_st (grown_st (grown_rfl w (some g)) (i * 3) (.int .u64 y.1)) (i * 3 + 1) (.int .i64 y.2.1)) (i * 3 + 2) (.int .i64 y.2.2)) (j * 3) (.int .u64 x.1)) (j * 3 + 1) (.int .i64 x.2.1)) (j * 3 + 2) (.int .i64 x.2.2)
    exact grown_dr e
  have hTn : some T ≠ (some g : Option Nat) := hap.2.1
  have hMn : some M ≠ (some g : Option Nat) := hap.2.2
  have hB1 := r.blk.kept hgr hTn
  have hm1 := hm.kept hgr hMn
  have hat := at_sw hi hj
  rw [hx'.out, hy'.out] at hat
  have hli : i < (Hp.sw h i j).length := by rw [sw_length]; exact hi
  have hlj : j < (Hp.sw h i j).length := by rw [sw_length]; exact hj
  have ti := TC_at hli
  have tj := TC_at hlj
  rw [hat, if_neg hij, if_pos rfl] at ti
  rw [hat, if_pos rfl] at tj
  have hbT := r.bT
  have hbM := r.bM
  have hok : ∀ z ∈ Hp.sw h i j, TOk z := fun z hz => r.ok z ((sw_perm hi hj).mem_iff.1 hz)
  have hmt : T ≠ M := hap.1
  generalize hH : h.length = n at hin hjn c0 hn hrow hB1 hm1
  have hH' := (show Hid _ from hH)
  clear hH r hm hp hap hx' hy' hat
  obtain ⟨x0, x1, x2⟩ := x
  obtain ⟨y0, y1, y2⟩ := y
  dsimp only at i0 i1 i2 j0 j1 j2 hrow hgr hB1 hm1 hidx hidy hpi hpj hpsw ti tj
  go_enter Tryz.func174, Tryz.ntmps174
  go_wp2_with fail
  go_region
  clear i0 i1 i2 j0 j1 j2 c0 c1 c2 f0 f1 f2 f3 f4 f5 n00 n01 n02 n10 n11 n12 n20 n21 n22
  generalize World.drew _ = W1 at hrow hgr hB1 hm1 ⊢
  have hl3 : n * 3 = h.length * 3 := by rw [hH'.out]
  have d1 := (hrow.cellAt (i * 3 + 1) (by omega)).trans ti.2.1
  obtain ⟨b0, b1, b2⟩ := hB1.cell
  obtain ⟨W2, hr2, hm2, hg2⟩ := (show MapI W1.drew M f n from hm1).put (by unfold maxLen; omega) hidy hi64
  go_wp2_with fail
  go_region
  have hg2' : W1.grownBy W2 (some M) := ⟨hg2.os, hg2.tape, hg2.output, hg2.size, hg2.block⟩
  rw [hpj] at hm2
  simp only [Option.isSome_some, if_true] at hm2
  have hB2 := hB1.kept hg2' (by simpa using hmt)
  have hrow2 := hrow.kept hg2' (by simpa [Value.ownBlock] using hMn.symm)
  have hF2 := (Fr.grown (T := T) (M := M) (v := .slice (some ⟨g, 0, none⟩) n cap) hgr (.inr (.inr (.inr rfl)))).trans (Fr.grown (T := T) (M := M) (v := .slice (some ⟨g, 0, none⟩) n cap) hg2' (.inr (.inr (.inl rfl)))) (.inl rfl)
  clear hrow hB1 hm1 hr2 hgr hg2 hg2' b0 b1 b2 d1 ti
  have d1 := (hrow2.cellAt (j * 3 + 1) (by omega)).trans tj.2.1
  obtain ⟨b0, b1, b2⟩ := hB2.cell
  obtain ⟨W3, hr3, hm3, hg3⟩ := (show MapI W2.drew M _ n from hm2).put (by unfold maxLen; omega) hidx hj64
  go_wp2_with fail
  go_region
  have hg3' : W2.grownBy W3 (some M) := ⟨hg3.os, hg3.tape, hg3.output, hg3.size, hg3.block⟩
  have hsome : (upd f y1 (some i) x1).isSome = true := by
    unfold upd
    split
    · rfl
    · rw [hpi]; rfl
  rw [hsome] at hm3
  simp only [if_true] at hm3
  have hB3 := hB2.kept hg3' (by simpa using hmt)
  have hrow3 := hrow2.kept hg3' (by simpa [Value.ownBlock] using hMn.symm)
  have hF3 := hF2.trans (Fr.grown (T := T) (M := M) (v := .slice (some ⟨g, 0, none⟩) n cap) hg3' (.inr (.inr (.inl rfl)))) (.inl rfl)
  clear hrow2 hB2 hm2 hr3 hF2 hg3 hg3' b0 b1 b2 d1 tj
  go_wp2
  go_returns
  have hls : (Hp.sw h i j).length = n := by rw [sw_length]; exact hH'.out
  rw [← hls] at hrow3 hm3 hB3 hF3 ⊢
  exact ⟨rfl, ⟨hB3, hrow3, ⟨_, hm3, hpsw⟩, hok, hbT, hbM⟩, hF3⟩
set_option maxRecDepth 100000 in
set_option maxHeartbeats 4000000 in
theorem swap_eq (base T M : Nat) (last : Int) (h : List Tm) (v : Value) (w : World) (r : TR base T M last h v w) (i : Nat) (hi : i < h.length) (hn : h.length ≤ 1000000) :
    Calls Tryz.prog 174 #[.pointer (some ⟨T, 0, none⟩), .int .i64 i, .int .i64 i] w fun e w' => e = .returned (.tuple #[]) ∧ TR base T M last (sw h i i) v w' ∧ Fr T M v w w' := by
  obtain ⟨g, cap, rfl, hg⟩ := r.shape (by omega)
  obtain ⟨c0, c1, c2⟩ := r.blk.cell
  have ai := TC_at hi
  have hl := TC_length h
  have i0 := (r.row.cellAt (i * 3) (by omega)).trans ai.1
  have i1 := (r.row.cellAt (i * 3 + 1) (by omega)).trans ai.2.1
  have i2 := (r.row.cellAt (i * 3 + 2) (by omega)).trans ai.2.2
  have f0 := r.row.frozenAt (i * 3)
  have f1 := r.row.frozenAt (i * 3 + 1)
  have f2 := r.row.frozenAt (i * 3 + 2)
  have hin : (i : Int) < (h.length : Int) := by omega
  have hTg : ¬ T = g := fun e => r.apart.2.1 (by rw [e]; rfl)
  generalize hx : at' h i = x at i0 i1 i2
  have hx' := (show Hid _ from hx)
  clear hx ai hl
  obtain ⟨f, hm, hp⟩ := r.map
  have hap := r.apart
  have hidx := ok_id r hi
  rw [hx'.out] at hidx
  have hi64 : I64 (i : Int) := by unfold I64; omega
  have hpi := hp.1 i _ (at_get hi)
  have hpsw := hp.sw hi hi
  rw [hx'.out] at hpi hpsw
  have hrow : (((((((w.setCell ⟨g, i * 3, none⟩ (.int .u64 x.1)).setCell ⟨g, i * 3 + 1, none⟩ (.int .i64 x.2.1)).setCell ⟨g, i * 3 + 2, none⟩ (.int .i64 x.2.2)).setCell ⟨g, i * 3, none⟩ (.int .u64 x.1)).setCell ⟨g, i * 3 + 1, none⟩ (.int .i64 x.2.1)).setCell ⟨g, i * 3 + 2, none⟩ (.int .i64 x.2.2)).drew).ownsRow base 254 3 (.slice (some ⟨g, 0, none⟩) h.length cap) h.length (TC (Hp.sw h i i)) := by
    have e := ((((((r.row.stored (i * 3) (.int .u64 x.1)).1.stored (i * 3 + 1) (.int .i64 x.2.1)).1.stored (i * 3 + 2) (.int .i64 x.2.2)).1.stored (i * 3) (.int .u64 x.1)).1.stored (i * 3 + 1) (.int .i64 x.2.1)).1.stored (i * 3 + 2) (.int .i64 x.2.2)).1
    rw [TC_set, TC_set] at e
    have es : (h.set i x).set i x = Hp.sw h i i := by
      unfold Hp.sw
      rw [hx'.out]
    rw [es] at e
    exact e.drew
  have hgr : w.grownBy (((((((w.setCell ⟨g, i * 3, none⟩ (.int .u64 x.1)).setCell ⟨g, i * 3 + 1, none⟩ (.int .i64 x.2.1)).setCell ⟨g, i * 3 + 2, none⟩ (.int .i64 x.2.2)).setCell ⟨g, i * 3, none⟩ (.int .u64 x.1)).setCell ⟨g, i * 3 + 1, none⟩ (.int .i64 x.2.1)).setCell ⟨g, i * 3 + 2, none⟩ (.int .i64 x.2.2)).drew) (some g) := by
    have e := grown_st (grown_st (grown_st (grown_st (grown_st (grown_st (grown_rfl w (some g)) (i * 3) (.int .u64 x.1)) (i * 3 + 1) (.int .i64 x.2.1)) (i * 3 + 2) (.int .i64 x.2.2)) (i * 3) (.int .u64 x.1)) (i * 3 + 1) (.int .i64 x.2.1)) (i * 3 + 2) (.int .i64 x.2.2)
    exact grown_dr e
  have hTn : some T ≠ (some g : Option Nat) := hap.2.1
  have hMn : some M ≠ (some g : Option Nat) := hap.2.2
  have hB1 := r.blk.kept hgr hTn
  have hm1 := hm.kept hgr hMn
  have hat := at_sw hi hi
  rw [hx'.out] at hat
  have hli : i < (Hp.sw h i i).length := by rw [sw_length]; exact hi
  have ti := TC_at hli
  rw [hat, if_pos rfl] at ti
  have hbT := r.bT
  have hbM := r.bM
  have hok : ∀ z ∈ Hp.sw h i i, TOk z := fun z hz => r.ok z ((sw_perm hi hi).mem_iff.1 hz)
  have hmt : T ≠ M := hap.1
  generalize hH : h.length = n at hin c0 hn hrow hB1 hm1
  have hH' := (show Hid _ from hH)
  clear hH r hm hp hap hx' hat
  obtain ⟨x0, x1, x2⟩ := x
  dsimp only at i0 i1 i2 hrow hgr hB1 hm1 hidx hpi hpsw ti
  go_enter Tryz.func174, Tryz.ntmps174
  go_wp2_with fail
  go_region
  clear i0 i1 i2 c0 c1 c2 f0 f1 f2
  generalize World.drew _ = W1 at hrow hgr hB1 hm1 ⊢
  have hl3 : n * 3 = h.length * 3 := by rw [hH'.out]
  have d1 := (hrow.cellAt (i * 3 + 1) (by omega)).trans ti.2.1
  obtain ⟨b0, b1, b2⟩ := hB1.cell
  obtain ⟨W2, hr2, hm2, hg2⟩ := (show MapI W1.drew M f n from hm1).put (by unfold maxLen; omega) hidx hi64
  go_wp2_with fail
  go_region
  have hg2' : W1.grownBy W2 (some M) := ⟨hg2.os, hg2.tape, hg2.output, hg2.size, hg2.block⟩
  rw [hpi] at hm2
  simp only [Option.isSome_some, if_true] at hm2
  have hB2 := hB1.kept hg2' (by simpa using hmt)
  have hrow2 := hrow.kept hg2' (by simpa [Value.ownBlock] using hMn.symm)
  have hF2 := (Fr.grown (T := T) (M := M) (v := .slice (some ⟨g, 0, none⟩) n cap) hgr (.inr (.inr (.inr rfl)))).trans (Fr.grown (T := T) (M := M) (v := .slice (some ⟨g, 0, none⟩) n cap) hg2' (.inr (.inr (.inl rfl)))) (.inl rfl)
  clear hrow hB1 hm1 hr2 hgr hg2 hg2' b0 b1 b2 d1
  have d1 := (hrow2.cellAt (i * 3 + 1) (by omega)).trans ti.2.1
  obtain ⟨b0, b1, b2⟩ := hB2.cell
  obtain ⟨W3, hr3, hm3, hg3⟩ := (show MapI W2.drew M _ n from hm2).put (by unfold maxLen; omega) hidx hi64
  go_wp2_with fail
  go_region
  have hg3' : W2.grownBy W3 (some M) := ⟨hg3.os, hg3.tape, hg3.output, hg3.size, hg3.block⟩
  have hsome : (upd f x1 (some i) x1).isSome = true := by
    simp [upd]
  rw [hsome] at hm3
  simp only [if_true] at hm3
  have hB3 := hB2.kept hg3' (by simpa using hmt)
  have hrow3 := hrow2.kept hg3' (by simpa [Value.ownBlock] using hMn.symm)
  have hF3 := hF2.trans (Fr.grown (T := T) (M := M) (v := .slice (some ⟨g, 0, none⟩) n cap) hg3' (.inr (.inr (.inl rfl)))) (.inl rfl)
  clear hrow2 hB2 hm2 hr3 hF2 hg3 hg3' b0 b1 b2 d1 ti
  go_wp2
  go_returns
  have hls : (Hp.sw h i i).length = n := by rw [sw_length]; exact hH'.out
  rw [← hls] at hrow3 hm3 hB3 hF3 ⊢
  exact ⟨rfl, ⟨hB3, hrow3, ⟨_, hm3, hpsw⟩, hok, hbT, hbM⟩, hF3⟩

theorem swap_any (base T M : Nat) (last : Int) (h : List Tm) (v : Value) (w : World) (r : TR base T M last h v w) (i j : Nat) (hi : i < h.length) (hj : j < h.length) (hn : h.length ≤ 1000000) :
    Calls Tryz.prog 174 #[.pointer (some ⟨T, 0, none⟩), .int .i64 i, .int .i64 j] w fun e w' => e = .returned (.tuple #[]) ∧ TR base T M last (sw h i j) v w' ∧ Fr T M v w w' := by
  by_cases hij : i = j
  · subst hij
    exact swap_eq base T M last h v w r i hi hn
  · exact swap_ne base T M last h v w r i j hi hj hij hn
end Go.Proofs.YtakaadcpaeiccabGreat

namespace Go.Proofs.YtakaadcpaeiccabGreat
open Go.RowKit Go.Maps
open Hp

@[reducible] def tmV (x : Tm) : Value := .agg #[.int .u64 x.1, .int .i64 x.2.1, .int .i64 x.2.2]
@[reducible] def tmBox (x : Tm) : Obj := .cells #[.int .u64 x.1, .int .i64 x.2.1, .int .i64 x.2.2] 254

set_option maxHeartbeats 1000000 in
theorem ahead_any (x y : Tm) (w : World) :
    Calls Tryz.prog 194 #[tmV x, tmV y] w fun e w' => e = .returned (.bool (ahd x y)) ∧ Below w.heap.size w w' := by
  obtain ⟨x0, x1, x2⟩ := x
  obtain ⟨y0, y1, y2⟩ := y
  have hB : Below w.heap.size w ((w.alloc (tmBox (x0, x1, x2))).alloc (tmBox (y0, y1, y2))) := ((Below.refl _ _).alloc (Nat.le_refl _) _).alloc (by simp) _
  dsimp only [tmBox] at hB
  by_cases h : x0 = y0
  · subst h
    have e : (x0 != x0) = false := by simp
    have ea : Hid (ahd (x0, x1, x2) (x0, y1, y2) = decide (x1 < y1)) := by
      show _ = _
      simp [ahd]
    go_enter Tryz.func194, Tryz.ntmps194
    go_wp2
    all_goals (go_ret; exact ⟨ret_bool ea.out.symm, hB⟩)
  · have e : (x0 != y0) = true := by simpa using h
    have ea : Hid (ahd (x0, x1, x2) (y0, y1, y2) = decide (x0 < y0)) := by
      show _ = _
      simp [ahd, h]
    go_enter Tryz.func194, Tryz.ntmps194
    go_wp2
    all_goals (go_ret; exact ⟨ret_bool ea.out.symm, hB⟩)

theorem TR.later {base T M : Nat} {last : Int} {h : List Tm} {v : Value} {W W' : World} (r : TR base T M last h v W) (hb : Below W.heap.size W W') : TR base T M last h v W' := by
  have hg : W.grownBy W' none := ⟨hb.os, hb.tape, hb.output, hb.size, fun k hk _ => hb.block k hk⟩
  obtain ⟨f, hm, hp⟩ := r.map
  exact ⟨r.blk.kept hg (by simp), step_append_kept r.row hb, ⟨f, hm.kept hg (by simp), hp⟩, r.ok, r.bT, r.bM⟩
theorem TR.drew {base T M : Nat} {last : Int} {h : List Tm} {v : Value} {W : World} (r : TR base T M last h v W) : TR base T M last h v W.drew := by
  obtain ⟨f, hm, hp⟩ := r.map
  exact ⟨r.blk, r.row.drew, ⟨f, hm, hp⟩, r.ok, r.bT, r.bM⟩
theorem Fr.later {T M : Nat} {v : Value} {w W W' : World} (a : Fr T M v w W) (hb : Below W.heap.size W W') : Fr T M v w W' :=
  a.trans (Fr.grown (v := v) (r := none) ⟨hb.os, hb.tape, hb.output, hb.size, fun k hk _ => hb.block k hk⟩ (.inl rfl)) (.inl rfl)
theorem Fr.drew {T M : Nat} {v : Value} {w W : World} (a : Fr T M v w W) : Fr T M v w W.drew := ⟨a.os, a.tape, a.output, a.size, a.block⟩

/-- What a statement reads of two timers and of the struct. -/
@[reducible] def Two (T g n cap i j : Nat) (x y : Tm) (W : World) : Prop :=
  W.cell? ⟨T, 0, none⟩ = some (.slice (some ⟨g, 0, none⟩) n cap) ∧
  W.cell? ⟨g, i * 3, none⟩ = some (.int .u64 x.1) ∧ W.cell? ⟨g, i * 3 + 1, none⟩ = some (.int .i64 x.2.1) ∧ W.cell? ⟨g, i * 3 + 2, none⟩ = some (.int .i64 x.2.2) ∧
  W.cell? ⟨g, j * 3, none⟩ = some (.int .u64 y.1) ∧ W.cell? ⟨g, j * 3 + 1, none⟩ = some (.int .i64 y.2.1) ∧ W.cell? ⟨g, j * 3 + 2, none⟩ = some (.int .i64 y.2.2)
theorem Two.of {base T M : Nat} {last : Int} {h : List Tm} {g cap : Nat} {W : World} (r : TR base T M last h (.slice (some ⟨g, 0, none⟩) h.length cap) W) {i j : Nat} (hi : i < h.length) (hj : j < h.length) : Two T g h.length cap i j (at' h i) (at' h j) W := by
  have ai := TC_at hi
  have aj := TC_at hj
  have hl := TC_length h
  exact ⟨r.blk.cell.1, (r.row.cellAt (i * 3) (by omega)).trans ai.1, (r.row.cellAt (i * 3 + 1) (by omega)).trans ai.2.1, (r.row.cellAt (i * 3 + 2) (by omega)).trans ai.2.2,
    (r.row.cellAt (j * 3) (by omega)).trans aj.1, (r.row.cellAt (j * 3 + 1) (by omega)).trans aj.2.1, (r.row.cellAt (j * 3 + 2) (by omega)).trans aj.2.2⟩

theorem Two.later {T g n cap i j : Nat} {x y : Tm} {W W' : World} (h : Two T g n cap i j x y W) (hb : Below W.heap.size W W') : Two T g n cap i j x y W' := by
  have k : ∀ {a : Addr} {u : Value}, W.cell? a = some u → W'.cell? a = some u := fun {a u} ha => (hb.cell (World.block_lt_of_cell? W a ha)).trans ha
  exact ⟨k h.1, k h.2.1, k h.2.2.1, k h.2.2.2.1, k h.2.2.2.2.1, k h.2.2.2.2.2.1, k h.2.2.2.2.2.2⟩

set_option maxRecDepth 100000 in
set_option maxHeartbeats 4000000 in
theorem rise_any (base T M : Nat) (last : Int) (h : List Tm) (v : Value) (w : World) (r : TR base T M last h v w) (i : Nat) (hi : i < h.length) (hn : h.length ≤ 1000000) (hb : Both h i) :
    Calls Tryz.prog 175 #[.pointer (some ⟨T, 0, none⟩), .int .i64 i] w fun e w' => e = .returned (.tuple #[]) ∧ ∃ h', TR base T M last h' v w' ∧ Fr T M v w w' ∧ h'.Perm h ∧ Down h' i := by
  obtain ⟨g, cap, rfl, hg⟩ := r.shape (by omega)
  have hF := Fr.refl T M (.slice (some ⟨g, 0, none⟩) h.length cap) w
  generalize hH : h.length = n at hi hn r hF
  have hH' := (show Hid _ from hH)
  clear hH
  go_enter Tryz.func175, Tryz.ntmps175
  go_wp2_with fail
  go_loopw [1] (fun iv wr => ∃ (k : Nat) (h1 : List Tm), iv = .int .i64 k ∧ k < n ∧ h1.length = n ∧ TR base T M last h1 (.slice (some ⟨g, 0, none⟩) n cap) wr ∧ Fr T M (.slice (some ⟨g, 0, none⟩) n cap) w wr ∧ h1.Perm h ∧ ((k = i ∧ Both h1 i) ∨ Up h1 k)) (fun iv _ => (intOf iv).toNat)
  case atStart => exact ⟨i, h, rfl, hi, hH'.out, r, hF, List.Perm.refl _, .inl ⟨rfl, hb⟩⟩
  case round =>
    clear r hF hb
    obtain ⟨k, h1, rfl, hk, hl, r1, hF1, hp1, hO⟩ := hrel
    by_cases h0 : 0 < k
    · have hpk := par_lt h0
      have hq : ((k : Int) - 1) / 2 = ((par k : Nat) : Int) := by unfold par; omega
      have hS : Two T g n cap k (par k) (at' h1 k) (at' h1 (par k)) wr := by
        have := Two.of (g := g) (cap := cap) (by rw [hl]; exact r1) (i := k) (j := par k) (by omega) (by omega)
        rw [hl] at this
        exact this
      have hBo : Both h1 k := by
        rcases hO with ⟨rfl, hB⟩ | hU
        · exact hB
        · exact hU.both
      have hl' := (show Hid _ from hl)
      have hpn : ((par k : Nat) : Int) < (n : Int) := by omega
      have hkn : (k : Int) < (n : Int) := by omega
      clear hl
      generalize hP : par k = P at hq hS hpk hpn
      have hP' := (show Hid _ from hP)
      clear hP
      go_wp2_with fail
      go_region_held3 (Two T g n cap k P (at' h1 k) (at' h1 P)) (first | exact hS | assumption | exact Two.later (by assumption) hb2) ((go_at_call 194; refine (ahead_any (at' h1 k) (at' h1 P) _).mono ?_; rintro e w2 ⟨rfl, hb2⟩))
      have r2 := r1.drew.later hb2
      have hF2 := hF1.drew.later hb2
      clear r1 hF1 hS hb2
      cases hA : ahd (at' h1 k) (at' h1 P)
      · have hDn : Down h1 i := by
          have hOk : Ok h1 k := by
            unfold Ok
            rw [hP'.out]
            exact hA
          rcases hO with ⟨rfl, hB⟩ | hU
          · exact hB.down (.inr hOk)
          · exact (hU.done hOk).down i
        clear hA hO hBo
        go_wp2
        go_returns
        exact ⟨rfl, h1, r2, hF2, hp1, hDn⟩
      · have hUp : Up (sw h1 k P) P := by
          have := up_step hBo h0 (by rw [hl'.out]; exact hk) (by rw [hP'.out]; exact hA)
          rw [hP'.out] at this
          exact this
        clear hA hO hBo
        go_wp2_with fail
        refine (swap_any base T M last h1 _ _ r2 k P (by rw [hl'.out]; exact hk) (by rw [hl'.out]; omega) (by rw [hl'.out]; exact hn)).mono ?_
        rintro e w3 ⟨rfl, r3, hF3⟩
        have hp3 : (sw h1 k P).Perm h := (sw_perm (by rw [hl'.out]; exact hk) (by rw [hl'.out]; omega)).trans hp1
        have hF4 := hF2.trans hF3 (.inl rfl)
        have hl3 : (sw h1 k P).length = n := by rw [sw_length]; exact hl'.out
        clear r2 hF2 hF3
        generalize sw h1 k P = h3 at r3 hp3 hl3 hUp
        have hl3' := (show Hid _ from hl3)
        clear hl3
        go_wp2
        go_roundw
        case rel => exact ⟨P, h3, rfl, by omega, hl3'.out, r3, hF4, hp3, .inr hUp⟩
        case measure => simp [intOf]; omega
    · obtain rfl : k = 0 := by omega
      have hDn : Down h1 i := by
        rcases hO with ⟨rfl, hB⟩ | hU
        · exact hB.down (.inl rfl)
        · exact hU.top.down i
      clear hO h0
      go_wp2
      go_returns
      exact ⟨rfl, h1, r1, hF1, hp1, hDn⟩
end Go.Proofs.YtakaadcpaeiccabGreat
