import Derived.Test.YtjkjepoeiabpiaaQ4
import Derived.Deep.RegionHeld3
namespace Go.Proofs.Ytjkjepoeiabpiaa
open Go.RowKit Go.Maps
open Hp

@[reducible] def tmV (x : Tm) : Value := .agg #[.int .u64 x.1, .int .i64 x.2.1, .int .i64 x.2.2]
@[reducible] def tmBox (x : Tm) : Obj := .cells #[.int .u64 x.1, .int .i64 x.2.1, .int .i64 x.2.2] 107

set_option maxHeartbeats 1000000 in
theorem ahead_any (x y : Tm) (w : World) :
    Calls Try.prog 67 #[tmV x, tmV y] w fun e w' => e = .returned (.bool (ahd x y)) ∧ Below w.heap.size w w' := by
  obtain ⟨x0, x1, x2⟩ := x
  obtain ⟨y0, y1, y2⟩ := y
  have hB : Below w.heap.size w ((w.alloc (tmBox (x0, x1, x2))).alloc (tmBox (y0, y1, y2))) := ((Below.refl _ _).alloc (Nat.le_refl _) _).alloc (by simp) _
  dsimp only [tmBox] at hB
  by_cases h : x0 = y0
  · subst h
    have e : (x0 != x0) = false := by simp
    have ea : Hid (ahd (x0, x1, x2) (x0, y1, y2) = decide (x1 < y1)) := by
      show _ = _
      simp [ahd]
    go_enter Try.func67, Try.ntmps67
    go_wp2
    all_goals (go_ret; exact ⟨ret_bool ea.out.symm, hB⟩)
  · have e : (x0 != y0) = true := by simpa using h
    have ea : Hid (ahd (x0, x1, x2) (y0, y1, y2) = decide (x0 < y0)) := by
      show _ = _
      simp [ahd, h]
    go_enter Try.func67, Try.ntmps67
    go_wp2
    all_goals (go_ret; exact ⟨ret_bool ea.out.symm, hB⟩)

theorem TR.later {base T M : Nat} {last : Int} {h : List Tm} {v : Value} {W W' : World} (r : TR base T M last h v W) (hb : Below W.heap.size W W') : TR base T M last h v W' := by
  have hg : W.grownBy W' none := ⟨hb.os, hb.tape, hb.output, hb.size, fun k hk _ => hb.block k hk⟩
  obtain ⟨f, hm, hp⟩ := r.map
  exact ⟨r.blk.kept hg (by simp), step_append_kept r.row hb, ⟨f, hm.kept hg (by simp), hp⟩, r.ok, r.bT, r.bM⟩
theorem TR.drew {base T M : Nat} {last : Int} {h : List Tm} {v : Value} {W : World} (r : TR base T M last h v W) : TR base T M last h v W.drew := by
  obtain ⟨f, hm, hp⟩ := r.map
  exact ⟨r.blk, r.row.drew, ⟨f, hm, hp⟩, r.ok, r.bT, r.bM⟩
theorem Fr.later {T M : Nat} {v : Value} {w W W' : World} (a : Fr T M v w W) (hb : Below W.heap.size W W') : Fr T M v w W' :=
  a.trans (Fr.grown (v := v) (r := none) ⟨hb.os, hb.tape, hb.output, hb.size, fun k hk _ => hb.block k hk⟩ (.inl rfl)) (.inl rfl)
theorem Fr.drew {T M : Nat} {v : Value} {w W : World} (a : Fr T M v w W) : Fr T M v w W.drew := ⟨a.os, a.tape, a.output, a.size, a.block⟩

/-- What a statement reads of two timers and of the struct. -/
@[reducible] def Two (T g n cap i j : Nat) (x y : Tm) (W : World) : Prop :=
  W.cell? ⟨T, 0, none⟩ = some (.slice (some ⟨g, 0, none⟩) n cap) ∧
  W.cell? ⟨g, i * 3, none⟩ = some (.int .u64 x.1) ∧ W.cell? ⟨g, i * 3 + 1, none⟩ = some (.int .i64 x.2.1) ∧ W.cell? ⟨g, i * 3 + 2, none⟩ = some (.int .i64 x.2.2) ∧
  W.cell? ⟨g, j * 3, none⟩ = some (.int .u64 y.1) ∧ W.cell? ⟨g, j * 3 + 1, none⟩ = some (.int .i64 y.2.1) ∧ W.cell? ⟨g, j * 3 + 2, none⟩ = some (.int .i64 y.2.2)
theorem Two.of {base T M : Nat} {last : Int} {h : List Tm} {g cap : Nat} {W : World} (r : TR base T M last h (.slice (some ⟨g, 0, none⟩) h.length cap) W) {i j : Nat} (hi : i < h.length) (hj : j < h.length) : Two T g h.length cap i j (at' h i) (at' h j) W := by
  have ai := TC_at hi
  have aj := TC_at hj
  have hl := TC_length h
  exact ⟨r.blk.cell.1, (r.row.cellAt (i * 3) (by omega)).trans ai.1, (r.row.cellAt (i * 3 + 1) (by omega)).trans ai.2.1, (r.row.cellAt (i * 3 + 2) (by omega)).trans ai.2.2,
    (r.row.cellAt (j * 3) (by omega)).trans aj.1, (r.row.cellAt (j * 3 + 1) (by omega)).trans aj.2.1, (r.row.cellAt (j * 3 + 2) (by omega)).trans aj.2.2⟩

theorem Two.later {T g n cap i j : Nat} {x y : Tm} {W W' : World} (h : Two T g n cap i j x y W) (hb : Below W.heap.size W W') : Two T g n cap i j x y W' := by
  have k : ∀ {a : Addr} {u : Value}, W.cell? a = some u → W'.cell? a = some u := fun {a u} ha => (hb.cell (World.block_lt_of_cell? W a ha)).trans ha
  exact ⟨k h.1, k h.2.1, k h.2.2.1, k h.2.2.2.1, k h.2.2.2.2.1, k h.2.2.2.2.2.1, k h.2.2.2.2.2.2⟩

set_option maxRecDepth 100000 in
set_option maxHeartbeats 4000000 in
theorem rise_any (base T M : Nat) (last : Int) (h : List Tm) (v : Value) (w : World) (r : TR base T M last h v w) (i : Nat) (hi : i < h.length) (hn : h.length ≤ 1000000) (hb : Both h i) :
    Calls Try.prog 51 #[.pointer (some ⟨T, 0, none⟩), .int .i64 i] w fun e w' => e = .returned (.tuple #[]) ∧ ∃ h', TR base T M last h' v w' ∧ Fr T M v w w' ∧ h'.Perm h ∧ Down h' i := by
  obtain ⟨g, cap, rfl, hg⟩ := r.shape (by omega)
  have hF := Fr.refl T M (.slice (some ⟨g, 0, none⟩) h.length cap) w
  generalize hH : h.length = n at hi hn r hF
  have hH' := (show Hid _ from hH)
  clear hH
  go_enter Try.func51, Try.ntmps51
  go_wp2_with fail
  go_loopw [1] (fun iv wr => ∃ (k : Nat) (h1 : List Tm), iv = .int .i64 k ∧ k < n ∧ h1.length = n ∧ TR base T M last h1 (.slice (some ⟨g, 0, none⟩) n cap) wr ∧ Fr T M (.slice (some ⟨g, 0, none⟩) n cap) w wr ∧ h1.Perm h ∧ ((k = i ∧ Both h1 i) ∨ Up h1 k)) (fun iv _ => (intOf iv).toNat)
  case atStart => exact ⟨i, h, rfl, hi, hH'.out, r, hF, List.Perm.refl _, .inl ⟨rfl, hb⟩⟩
  case round =>
    clear r hF hb
    obtain ⟨k, h1, rfl, hk, hl, r1, hF1, hp1, hO⟩ := hrel
    by_cases h0 : 0 < k
    · have hpk := par_lt h0
      have hq : ((k : Int) - 1) / 2 = ((par k : Nat) : Int) := by unfold par; omega
      have hS : Two T g n cap k (par k) (at' h1 k) (at' h1 (par k)) wr := by
        have := Two.of (g := g) (cap := cap) (by rw [hl]; exact r1) (i := k) (j := par k) (by omega) (by omega)
        rw [hl] at this
        exact this
      have hBo : Both h1 k := by
        rcases hO with ⟨rfl, hB⟩ | hU
        · exact hB
        · exact hU.both
      have hl' := (show Hid _ from hl)
      have hpn : ((par k : Nat) : Int) < (n : Int) := by omega
      have hkn : (k : Int) < (n : Int) := by omega
      clear hl
      generalize hP : par k = P at hq hS hpk hpn
      have hP' := (show Hid _ from hP)
      clear hP
      go_wp2_with fail
      go_region_held3 (Two T g n cap k P (at' h1 k) (at' h1 P)) (first | exact hS | assumption | exact Two.later (by assumption) hb2) ((go_at_call 67; refine (ahead_any (at' h1 k) (at' h1 P) _).mono ?_; rintro e w2 ⟨rfl, hb2⟩))
      have r2 := r1.drew.later hb2
      have hF2 := hF1.drew.later hb2
      clear r1 hF1 hS hb2
      cases hA : ahd (at' h1 k) (at' h1 P)
      · have hDn : Down h1 i := by
          have hOk : Ok h1 k := by
            unfold Ok
            rw [hP'.out]
            exact hA
          rcases hO with ⟨rfl, hB⟩ | hU
          · exact hB.down (.inr hOk)
          · exact (hU.done hOk).down i
        clear hA hO hBo
        go_wp2
        go_returns
        exact ⟨rfl, h1, r2, hF2, hp1, hDn⟩
      · have hUp : Up (sw h1 k P) P := by
          have := up_step hBo h0 (by rw [hl'.out]; exact hk) (by rw [hP'.out]; exact hA)
          rw [hP'.out] at this
          exact this
        clear hA hO hBo
        go_wp2_with fail
        refine (swap_any base T M last h1 _ _ r2 k P (by rw [hl'.out]; exact hk) (by rw [hl'.out]; omega) (by rw [hl'.out]; exact hn)).mono ?_
        rintro e w3 ⟨rfl, r3, hF3⟩
        have hp3 : (sw h1 k P).Perm h := (sw_perm (by rw [hl'.out]; exact hk) (by rw [hl'.out]; omega)).trans hp1
        have hF4 := hF2.trans hF3 (.inl rfl)
        have hl3 : (sw h1 k P).length = n := by rw [sw_length]; exact hl'.out
        clear r2 hF2 hF3
        generalize sw h1 k P = h3 at r3 hp3 hl3 hUp
        have hl3' := (show Hid _ from hl3)
        clear hl3
        go_wp2
        go_roundw
        case rel => exact ⟨P, h3, rfl, by omega, hl3'.out, r3, hF4, hp3, .inr hUp⟩
        case measure => simp [intOf]; omega
    · obtain rfl : k = 0 := by omega
      have hDn : Down h1 i := by
        rcases hO with ⟨rfl, hB⟩ | hU
        · exact hB.down (.inl rfl)
        · exact hU.top.down i
      clear hO h0
      go_wp2
      go_returns
      exact ⟨rfl, h1, r1, hF1, hp1, hDn⟩
end Go.Proofs.Ytjkjepoeiabpiaa
