import Derived.Test.YtjkjepoeiabpiaaQ5
namespace Go.Proofs.Ytjkjepoeiabpiaa
open Go.RowKit Go.Maps
open Hp

/-- The first one of a place and of those below it that have been looked at. -/
structure First (h : List Tm) (k b F : Nat) : Prop where
  lt : F < h.length
  fst : F = k ∨ (0 < F ∧ par F = k ∧ ahd (at' h F) (at' h k) = true)
  le : Le (at' h F) (at' h k)
  all : ∀ d, 0 < d → d < h.length → par d = k → d < b → Le (at' h F) (at' h d)
theorem First.start {h : List Tm} {k : Nat} (hk : k < h.length) : First h k (2 * k + 1) k := by
  refine ⟨hk, .inl rfl, Le.refl _, fun d h1 h2 h3 h4 => ?_⟩
  unfold par at h3
  omega
theorem First.stay {h : List Tm} {k b F : Nat} (f : First h k b F) (ha : ahd (at' h b) (at' h F) = false) : First h k (b + 1) F := by
  refine ⟨f.lt, f.fst, f.le, fun d h1 h2 h3 h4 => ?_⟩
  by_cases e : d = b
  · subst e; exact ha
  · exact f.all d h1 h2 h3 (by omega)
theorem First.next {h : List Tm} {k b F : Nat} (f : First h k b F) (hb : b < h.length) (hp : par b = k) (h0 : 0 < b) (ha : ahd (at' h b) (at' h F) = true) : First h k (b + 1) b := by
  have hle := Le.of ha
  have hlk := hle.trans f.le
  refine ⟨hb, .inr ⟨h0, hp, ?_⟩, hlk, fun d h1 h2 h3 h4 => ?_⟩
  · have := f.le
    rw [Le.iff] at this
    rw [ahd_iff] at ha ⊢
    omega
  · by_cases e : d = b
    · subst e; exact Le.refl _
    · exact hle.trans (f.all d h1 h2 h3 (by omega))
theorem First.whole {h : List Tm} {k b F : Nat} (f : First h k b F) (hb : 2 * k + 2 < b ∨ h.length ≤ b) : ∀ d, 0 < d → d < h.length → par d = k → Le (at' h F) (at' h d) := fun d h1 h2 h3 => by
  refine f.all d h1 h2 h3 ?_
  unfold par at h3
  omega

set_option maxRecDepth 100000 in
set_option maxHeartbeats 4000000 in
theorem sink_any (base T M : Nat) (last : Int) (h : List Tm) (v : Value) (w : World) (r : TR base T M last h v w) (i : Nat) (hi : i < h.length) (hn : h.length ≤ 1000000) (hb : Down h i) :
    Calls Try.prog 69 #[.pointer (some ⟨T, 0, none⟩), .int .i64 i] w fun e w' => e = .returned (.tuple #[]) ∧ ∃ h', TR base T M last h' v w' ∧ Fr T M v w w' ∧ h'.Perm h ∧ Heap h' := by
  obtain ⟨g, cap, rfl, hg⟩ := r.shape (by omega)
  have hF := Fr.refl T M (.slice (some ⟨g, 0, none⟩) h.length cap) w
  generalize hH : h.length = n at hi hn r hF
  have hH' := (show Hid _ from hH)
  clear hH
  go_enter Try.func69, Try.ntmps69
  go_wp2_with fail
  go_loopw [1] (fun iv wr => ∃ (k : Nat) (h1 : List Tm), iv = .int .i64 k ∧ k < n ∧ h1.length = n ∧ TR base T M last h1 (.slice (some ⟨g, 0, none⟩) n cap) wr ∧ Fr T M (.slice (some ⟨g, 0, none⟩) n cap) w wr ∧ h1.Perm h ∧ Down h1 k) (fun iv _ => n - (intOf iv).toNat)
  case atStart => exact ⟨i, h, rfl, hi, hH'.out, r, hF, List.Perm.refl _, hb⟩
  case round =>
    clear r hF hb
    obtain ⟨k, h1, rfl, hk, hl, r1, hF1, hp1, hD⟩ := hrel
    have hf0 : First h1 k (2 * k + 1) k := First.start (by omega)
    have hl' := (show Hid _ from hl)
    have hi64 : (2 : Int) * (k : Int) + 2 ≤ 9223372036854775807 := by omega
    clear hl
    go_wp2_with fail
    go_loopw [4, 5] (fun fv bv wx => ∃ (F b : Nat), fv = .int .i64 F ∧ bv = .int .i64 b ∧ 2 * k + 1 ≤ b ∧ b ≤ 2 * k + 3 ∧ First h1 k b F ∧ TR base T M last h1 (.slice (some ⟨g, 0, none⟩) n cap) wx ∧ Fr T M (.slice (some ⟨g, 0, none⟩) n cap) w wx) (fun _ bv _ => 2 * k + 3 - (intOf bv).toNat)
    case atStart => exact ⟨k, 2 * k + 1, rfl, by go_num, Nat.le_refl _, by omega, hf0, r1, hF1⟩
    case round =>
      clear hf0 r1 hF1
      obtain ⟨F, b, rfl, rfl, hb1, hb2, hf, rx, hFx⟩ := hrel
      have hFn : F < n := by have := hf.lt; rw [hl'.out] at this; exact this
      have cT := rx.blk.cell.1
      by_cases hlt : b ≤ 2 * k + 2 ∧ b < n
      · obtain ⟨hle, hbn⟩ := hlt
        have hd1 : decide ((b : Int) ≤ 2 * (k : Int) + 2) = true := decide_eq_true (by omega)
        have hd2 : decide ((b : Int) < (n : Int)) = true := decide_eq_true (by omega)
        have hbi : (b : Int) < (n : Int) := by omega
        have hFi : (F : Int) < (n : Int) := by omega
        have hS : Two T g n cap b F (at' h1 b) (at' h1 F) wr := by
          have := Two.of (g := g) (cap := cap) (by rw [hl'.out]; exact rx) (i := b) (j := F) (by rw [hl'.out]; exact hbn) (by rw [hl'.out]; exact hFn)
          rw [hl'.out] at this
          exact this
        go_wp2_with fail
        go_region_held3 (Two T g n cap b F (at' h1 b) (at' h1 F)) (first | exact hS | assumption | exact Two.later (by assumption) hbx) ((go_at_call 67; refine (ahead_any (at' h1 b) (at' h1 F) _).mono ?_; rintro e w2 ⟨rfl, hbx⟩))
        have r2 := rx.drew.later hbx
        have hF2 := hFx.drew.later hbx
        clear rx hFx hS hbx cT
        cases hA : ahd (at' h1 b) (at' h1 F)
        · have hf1 := hf.stay hA
          clear hA hf
          go_wp2
          go_roundw
          case rel => exact ⟨F, b + 1, rfl, by go_num, by omega, by omega, hf1, r2, hF2⟩
          case measure => simp [intOf]; omega
        · have hf1 := hf.next (by rw [hl'.out]; exact hbn) (by unfold par; omega) (by omega) hA
          clear hA hf
          go_wp2
          go_roundw
          case rel => exact ⟨b, b + 1, rfl, by go_num, by omega, by omega, hf1, r2, hF2⟩
          case measure => simp [intOf]; omega
      · have hw := hf.whole (by rw [hl'.out]; omega)
        have hff := hf.fst
        have hd : (decide ((b : Int) ≤ 2 * (k : Int) + 2) = false) ∨ (decide ((b : Int) ≤ 2 * (k : Int) + 2) = true ∧ decide (b < n) = false) := by
          by_cases h2 : b ≤ 2 * k + 2
          · exact .inr ⟨decide_eq_true (by omega), decide_eq_false (by omega)⟩
          · exact .inl (decide_eq_false (by omega))
        by_cases hFk : F = k
        · subst hFk
          have hHp : Heap h1 := hD.done hw
          clear hw hff hf hD hlt
          rcases hd with hd | ⟨hd, hd'⟩
          all_goals
            clear hb1 hb2
            go_upto_region 6 with (fail)
            clear hd
            go_wp2
            go_returns
            exact ⟨rfl, h1, rx, hFx, hp1, hHp⟩
        · obtain ⟨hF0, hpF, hA⟩ := hff.resolve_left hFk
          have hDn := down_step hD hF0 hf.lt hpF hA hw
          have hkF := par_lt hF0
          have hFk' : ((F : Int) == (k : Int)) = false := beq_eq_false_iff_ne.2 (by omega)
          have hp3 : (sw h1 k F).Perm h := (sw_perm (by rw [hl'.out]; exact hk) (by rw [hl'.out]; exact hFn)).trans hp1
          have hl3 : Hid ((sw h1 k F).length = n) := by
            show _ = _
            rw [sw_length]; exact hl'.out
          clear hw hff hf hD hlt hA
          rcases hd with hd | ⟨hd, hd'⟩
          all_goals
            clear hb1 hb2
            go_upto_region 6 with (fail)
            clear hd
            go_wp2_with fail
            refine (swap_any base T M last h1 _ _ rx k F (by rw [hl'.out]; exact hk) (by rw [hl'.out]; exact hFn) (by rw [hl'.out]; exact hn)).mono ?_
            rintro e w3 ⟨rfl, r3, hF3⟩
            have hF4 := hFx.trans hF3 (.inl rfl)
            clear hFx hF3
            go_wp2
            go_roundw
            case rel => exact ⟨F, sw h1 k F, rfl, hFn, hl3.out, r3, hF4, hp3, hDn⟩
            case measure => simp [intOf]; omega
end Go.Proofs.Ytjkjepoeiabpiaa
