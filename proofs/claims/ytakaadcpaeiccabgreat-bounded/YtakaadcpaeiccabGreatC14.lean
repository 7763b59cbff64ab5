import Derived.Test.YtakaadcpaeiccabGreatC10
import Derived.Test.YtakaadcpaeiccabGreatC11
import Derived.Test.YtakaadcpaeiccabGreatC12
import Derived.Test.YtakaadcpaeiccabGreatC13
namespace Go.Proofs.YtakaadcpaeiccabGreat
open Go.RowKit Go.Sort

/-- What the sort leaves. -/
def PQ (base g cap n a b : Nat) (d : Array Int) (w : World) (e : Ending) (w' : World) : Prop :=
  e = .returned (.tuple #[]) ∧ ∃ d', SR base g cap n d' w' ∧ PermIn a b d d' ∧ SortedIn ltInt a b d' ∧ w.grownBy w' (some g)

set_option maxRecDepth 100000 in
set_option maxHeartbeats 40000000 in
theorem pdq_any (m : Nat) : ∀ (base g cap n a b limit : Nat) (d : Array Int) (w : World), b - a = m → SR base g cap n d w → a ≤ b → b ≤ n → n ≤ 1000000 → limit ≤ 100 → Go.Sort.Below ltInt a b d →
    Calls Tryz.prog 172 #[.slice (some ⟨g, 0, none⟩) n cap, .int .i64 a, .int .i64 b, .int .i64 limit] w (PQ base g cap n a b d w) := by
  induction m using Nat.strongRecOn with
  | ind m ih =>
  intro base g cap n a b limit d w hm h hab hb hn hlim hB
  go_enter Tryz.func172, Tryz.ntmps172
  go_wp2_with fail
  go_loopw [1, 2, 3, 8, 9] (fun va vb vl vx vy wr => ∃ (a' b' lim : Nat) (wb wp : Bool) (dk : Array Int), va = .int .i64 a' ∧ vb = .int .i64 b' ∧ vl = .int .i64 lim ∧ vx = .bool wb ∧ vy = .bool wp ∧ a ≤ a' ∧ a' ≤ b' ∧ b' ≤ b ∧ lim ≤ 100 ∧ SR base g cap n dk wr ∧ w.grownBy wr (some g) ∧ Go.Sort.Below ltInt a' b' dk ∧
    Hid (∀ R, PermIn a' b' dk R → SortedIn ltInt a' b' R → PermIn a b d R ∧ SortedIn ltInt a b R)) (fun va vb _ _ _ _ => (intOf vb).toNat - (intOf va).toNat)
  case atStart => exact ⟨a, b, limit, true, true, d, rfl, rfl, rfl, rfl, rfl, Nat.le_refl _, hab, Nat.le_refl _, hlim, h, grn_rfl _ _, hB, fun R q1 q2 => ⟨q1, q2⟩⟩
  case round =>
    clear h hB
    obtain ⟨a', b', lim, wb, wp, d1, rfl, rfl, rfl, rfl, rfl, haa, hab', hbb, hlim', h, hg, hB, HF⟩ := hrel
    have hb' : b' ≤ n := by omega
    obtain ⟨l, hl⟩ : ∃ l, a' + l = b' := ⟨b' - a', by omega⟩
    have hql : (b' : Int) - (a' : Int) = (l : Int) := by omega
    by_cases h12 : l ≤ 12
    · have hd12 : decide ((l : Int) ≤ 12) = true := decide_eq_true (by omega)
      have hd12' : decide (l ≤ 12) = true := decide_eq_true h12
      have hcall := insertion_any base g cap n a' b' d1 _ h hab' hb' hn
      obtain ⟨i1, i2⟩ := insertionSort_holds swo_ltInt d1 a' b' hab' (by rw [h.size]; exact hb')
      obtain ⟨f1, f2⟩ := HF.out _ i1 i2
      clear i1 i2
      go_wp2_with fail
      refine hcall.mono ?_
      rintro e W2 ⟨rfl, h2, hg2⟩
      clear hcall
      go_wp2
      go_returns
      exact ⟨rfl, _, h2, f1, f2, hg.trans hg2⟩
    · have hd12 : decide ((l : Int) ≤ 12) = false := decide_eq_false (by omega)
      have hd12' : decide (l ≤ 12) = false := decide_eq_false h12
      by_cases hlz : lim = 0
      · subst hlz
        have hcall := heapSort_any base g cap n a' b' d1 _ h (by omega) hb' hn
        obtain ⟨i1, i2⟩ := heapSort_holds swo_ltInt d1 a' b' hab' (by rw [h.size]; exact hb')
        obtain ⟨f1, f2⟩ := HF.out _ i1 i2
        clear i1 i2
        go_wp2_with fail
        refine hcall.mono ?_
        rintro e W2 ⟨rfl, h2, hg2⟩
        clear hcall
        go_wp2
        go_returns
        exact ⟨rfl, _, h2, f1, f2, hg.trans hg2⟩
      · have hlzb : ((lim : Int) == 0) = false := by rw [beq_eq_false_iff_ne]; omega
        cases wb
        · obtain ⟨l1, hl1⟩ : ∃ l1, l1 + 1 = lim := ⟨lim - 1, by omega⟩
          have hql1 : (lim : Int) - 1 = (l1 : Int) := by omega
          have hl1b : l1 ≤ 100 := by omega
          clear hl1
          have hcall := break_any base g cap n a' b' d1 _ h (by omega) hb' hn
          go_wp2_with fail
          refine hcall.mono ?_
          rintro e W2 ⟨rfl, dn, h2, hperm, hg2⟩
          replace hB := Go.Sort.Below.perm hB (by rw [h.size]; exact hb') hperm
          have HF0 := HF
          replace HF : Hid (∀ R, PermIn a' b' dn R → SortedIn ltInt a' b' R → PermIn a b d R ∧ SortedIn ltInt a b R) := fun R q1 q2 => HF0.out R (permIn_trans _ _ _ _ _ hperm q1) q2
          replace hg := hg.trans hg2
          clear HF0 hperm hcall hg2 h
          have h := h2
          clear h2 d1
          obtain ⟨d1, hd1⟩ : ∃ d1, dn = d1 := ⟨_, rfl⟩
          rw [hd1] at h hB HF
          clear hd1
          have hcall := choosePivot_any base g cap n a' b' d1 _ h (by omega) hb' hn
          go_wp2_with fail
          refine hcall.mono ?_
          rintro e W4 ⟨p, t, rfl, hp1, hp2, h4, hb4⟩
          replace hg := hg.trans (⟨hb4.os, hb4.tape, hb4.output, hb4.size, fun k hk _ => hb4.block k hk⟩ : World.grownBy _ W4 (some g))
          clear hcall h hb4
          have h := h4
          clear h4
          have hcp := hp1
          by_cases ht2 : t = 2
          · subst ht2
            have hcall := reverse_any base g cap n a' b' d1 _ h (by omega) hb' hn
            clear hcp
            go_wp2_with fail
            refine hcall.mono ?_
            rintro e W5 ⟨rfl, h5, hg5⟩
            have hperm := reverseRange_holds d1 a' b' (by omega) (by rw [h.size]; exact hb')
            replace hB := Go.Sort.Below.perm hB (by rw [h.size]; exact hb') hperm
            have HF0 := HF
            replace HF : Hid (∀ R, PermIn a' b' (reverseRange d1 a' b') R → SortedIn ltInt a' b' R → PermIn a b d R ∧ SortedIn ltInt a b R) := fun R q1 q2 => HF0.out R (permIn_trans _ _ _ _ _ hperm q1) q2
            replace hg := hg.trans hg5
            clear HF0 hperm hcall hg5 h
            have h := h5
            clear h5
            generalize reverseRange d1 a' b' = d2 at h hB HF
            obtain ⟨p2, hp2e⟩ : ∃ p2, p2 + (p - a') = b' - 1 := ⟨b' - 1 - (p - a'), by omega⟩
            have hqp : (b' : Int) - 1 - ((p : Int) - (a' : Int)) = (p2 : Int) := by omega
            replace hp1 : a' ≤ p2 := by omega
            replace hp2 : p2 < b' := by omega
            clear hp2e
            by_cases ha0 : 0 < a'
            · have hda : decide ((0 : Int) < (a' : Int)) = true := decide_eq_true (by omega)
              have hda' : decide (0 < a') = true := decide_eq_true ha0
              have hq0 : (a' : Int) - 1 = ((a' - 1 : Nat) : Int) := by omega
              have c0 := h.cell (j := a' - 1) (by omega)
              have c1 := h.cell (j := p2) (by omega)
              have hx1 : ((a' - 1 : Nat) : Int) < (n : Int) := by omega
              have hx2 : (p2 : Int) < (n : Int) := by omega
              obtain ⟨X, hX⟩ : ∃ X, d2[a' - 1]! = X := ⟨_, rfl⟩
              obtain ⟨Y, hY⟩ : ∃ Y, d2[p2]! = Y := ⟨_, rfl⟩
              rw [hX] at c0
              rw [hY] at c1
              have HX := (show Hid _ from hX)
              have HY := (show Hid _ from hY)
              clear hX hY
              generalize a' - 1 = a1 at hq0 c0 hx1 HX
              go_wp2_with fail
              go_quiet (first | (go_at_call 189; refine Calls.quiet_of_same (Less_any _ _ _)))
              replace hg := hg.trans (grown_dN _ nq (some g))
              replace h := h.drewN nq
              generalize World.drewN _ _ = W6 at h hg ⊢
              cases hl : ltInt X Y
              · have hl' : ltInt d2[a' - 1]! d2[p2]! = false := by
                  have e1 : a1 = a' - 1 := by omega
                  rw [← e1, HX.out, HY.out]; exact hl
                have hcall := partEq_any base g cap n a' b' p2 d2 _ h hp1 hp2 hb' hn
                clear c0 c1
                go_wp2_with fail
                refine hcall.mono ?_
                rintro e W7 ⟨mid, d4, heq, rfl, h4, hg4⟩
                obtain ⟨r1, r2, rsz, rB, rF⟩ := round_eq swo_ltInt (partitionEqual_holds ltInt) ha0 hp1 hp2 (by rw [h.size]; exact hb') hB hl' heq
                replace hg := hg.trans hg4
                have HB1 := (show Hid _ from rB)
                have HK2 : Hid (∀ R, PermIn mid b' d4 R → SortedIn ltInt mid b' R → PermIn a b d R ∧ SortedIn ltInt a b R) := fun R q1 q2 => HF.out R (rF R q1 q2).1 (rF R q1 q2).2
                clear rB rF heq hcall hg4 h hB hl' HX HY
                go_wp2
                go_roundw
                case rel => exact ⟨mid, b', l1, _, _, d4, rfl, rfl, rfl, rfl, rfl, by omega, by omega, by omega, by omega, h4, hg, HB1.out, HK2⟩
                case measure => simp [intOf] <;> omega
              · clear HX HY
                have hcall := partition_any base g cap n a' b' p2 d2 _ h hp1 hp2 hb' hn
                clear c0 c1
                go_wp2_with fail
                refine hcall.mono ?_
                rintro e W7 ⟨mid, ap, d4, heq, rfl, h4, hg4⟩
                obtain ⟨r1, r2, rsz, rB1, rB2, rL, rR⟩ := round_part swo_ltInt (partition_holds ltInt) hp1 hp2 (by rw [h.size]; exact hb') hB heq
                replace hg := hg.trans hg4
                have RL' := (show Hid _ from rL)
                have RR' := (show Hid _ from rR)
                have HB1 := (show Hid _ from rB1)
                have HB2 := (show Hid _ from rB2)
                clear rL rR rB1 rB2 heq hcall hg4 h hB
                by_cases hord : mid - a' < b' - mid
                · have hdo : decide ((mid : Int) - (a' : Int) < (b' : Int) - (mid : Int)) = true := decide_eq_true (by omega)
                  have hrec := ih (mid - a') (by omega) base g cap n a' mid l1 d4 _ rfl h4 r1 (by omega) hn (by omega) HB1.out
                  have HREC := (show Hid _ from hrec)
                  clear hrec
                  go_wp2_with fail
                  refine Calls.mono HREC.out ?_
                  rintro e W8 ⟨rfl, d5, h5, hp5, hs5, hg5⟩
                  obtain ⟨k1, k2⟩ := RL'.out d5 hp5 hs5
                  have HK1 := (show Hid _ from k1)
                  have HK2 : Hid (∀ R, PermIn (mid + 1) b' d5 R → SortedIn ltInt (mid + 1) b' R → PermIn a b d R ∧ SortedIn ltInt a b R) := fun R q1 q2 => HF.out R (k2 R q1 q2).1 (k2 R q1 q2).2
                  replace hg := hg.trans hg5
                  clear HREC k1 k2 hp5 hs5 hg5 h4
                  go_wp2
                  go_roundw
                  case rel => exact ⟨mid + 1, b', l1, _, ap, d5, by go_num, rfl, rfl, rfl, rfl, by omega, by omega, by omega, by omega, h5, hg, HK1.out, HK2⟩
                  case measure => simp [intOf] <;> omega
                · have hdo : decide ((mid : Int) - (a' : Int) < (b' : Int) - (mid : Int)) = false := decide_eq_false (by omega)
                  have hrec := ih (b' - (mid + 1)) (by omega) base g cap n (mid + 1) b' l1 d4 _ rfl h4 (by omega) (by omega) hn (by omega) HB2.out
                  have hmq : ((mid + 1 : Nat) : Int) = (mid : Int) + 1 := by omega
                  rw [hmq] at hrec
                  have HREC := (show Hid _ from hrec)
                  clear hrec hmq
                  go_wp2_with fail
                  refine Calls.mono HREC.out ?_
                  rintro e W8 ⟨rfl, d5, h5, hp5, hs5, hg5⟩
                  obtain ⟨k1, k2⟩ := RR'.out d5 hp5 hs5
                  have HK1 := (show Hid _ from k1)
                  have HK2 : Hid (∀ R, PermIn a' mid d5 R → SortedIn ltInt a' mid R → PermIn a b d R ∧ SortedIn ltInt a b R) := fun R q1 q2 => HF.out R (k2 R q1 q2).1 (k2 R q1 q2).2
                  replace hg := hg.trans hg5
                  clear HREC k1 k2 hp5 hs5 hg5 h4
                  go_wp2
                  go_roundw
                  case rel => exact ⟨a', mid, l1, _, ap, d5, rfl, rfl, rfl, rfl, rfl, by omega, by omega, by omega, by omega, h5, hg, HK1.out, HK2⟩
                  case measure => simp [intOf] <;> omega
            · have hda : decide ((0 : Int) < (a' : Int)) = false := decide_eq_false (by omega)
              have hda' : decide (0 < a') = false := decide_eq_false ha0
              have c0 := hda
              have c1 := hda
              go_wp2_with fail
              go_quiet (fail)
              replace hg := hg.trans (grown_dN _ nq (some g))
              replace h := h.drewN nq
              generalize World.drewN _ _ = W6 at h hg ⊢
              have hcall := partition_any base g cap n a' b' p2 d2 _ h hp1 hp2 hb' hn
              clear c0 c1
              go_wp2_with fail
              refine hcall.mono ?_
              rintro e W7 ⟨mid, ap, d4, heq, rfl, h4, hg4⟩
              obtain ⟨r1, r2, rsz, rB1, rB2, rL, rR⟩ := round_part swo_ltInt (partition_holds ltInt) hp1 hp2 (by rw [h.size]; exact hb') hB heq
              replace hg := hg.trans hg4
              have RL' := (show Hid _ from rL)
              have RR' := (show Hid _ from rR)
              have HB1 := (show Hid _ from rB1)
              have HB2 := (show Hid _ from rB2)
              clear rL rR rB1 rB2 heq hcall hg4 h hB
              by_cases hord : mid - a' < b' - mid
              · have hdo : decide ((mid : Int) - (a' : Int) < (b' : Int) - (mid : Int)) = true := decide_eq_true (by omega)
                have hrec := ih (mid - a') (by omega) base g cap n a' mid l1 d4 _ rfl h4 r1 (by omega) hn (by omega) HB1.out
                have HREC := (show Hid _ from hrec)
                clear hrec
                go_wp2_with fail
                refine Calls.mono HREC.out ?_
                rintro e W8 ⟨rfl, d5, h5, hp5, hs5, hg5⟩
                obtain ⟨k1, k2⟩ := RL'.out d5 hp5 hs5
                have HK1 := (show Hid _ from k1)
                have HK2 : Hid (∀ R, PermIn (mid + 1) b' d5 R → SortedIn ltInt (mid + 1) b' R → PermIn a b d R ∧ SortedIn ltInt a b R) := fun R q1 q2 => HF.out R (k2 R q1 q2).1 (k2 R q1 q2).2
                replace hg := hg.trans hg5
                clear HREC k1 k2 hp5 hs5 hg5 h4
                go_wp2
                go_roundw
                case rel => exact ⟨mid + 1, b', l1, _, ap, d5, by go_num, rfl, rfl, rfl, rfl, by omega, by omega, by omega, by omega, h5, hg, HK1.out, HK2⟩
                case measure => simp [intOf] <;> omega
              · have hdo : decide ((mid : Int) - (a' : Int) < (b' : Int) - (mid : Int)) = false := decide_eq_false (by omega)
                have hrec := ih (b' - (mid + 1)) (by omega) base g cap n (mid + 1) b' l1 d4 _ rfl h4 (by omega) (by omega) hn (by omega) HB2.out
                have hmq : ((mid + 1 : Nat) : Int) = (mid : Int) + 1 := by omega
                rw [hmq] at hrec
                have HREC := (show Hid _ from hrec)
                clear hrec hmq
                go_wp2_with fail
                refine Calls.mono HREC.out ?_
                rintro e W8 ⟨rfl, d5, h5, hp5, hs5, hg5⟩
                obtain ⟨k1, k2⟩ := RR'.out d5 hp5 hs5
                have HK1 := (show Hid _ from k1)
                have HK2 : Hid (∀ R, PermIn a' mid d5 R → SortedIn ltInt a' mid R → PermIn a b d R ∧ SortedIn ltInt a b R) := fun R q1 q2 => HF.out R (k2 R q1 q2).1 (k2 R q1 q2).2
                replace hg := hg.trans hg5
                clear HREC k1 k2 hp5 hs5 hg5 h4
                go_wp2
                go_roundw
                case rel => exact ⟨a', mid, l1, _, ap, d5, rfl, rfl, rfl, rfl, rfl, by omega, by omega, by omega, by omega, h5, hg, HK1.out, HK2⟩
                case measure => simp [intOf] <;> omega
          · have hdt2 : (t == 2) = false := by rw [beq_eq_false_iff_ne]; exact ht2
            by_cases ha0 : 0 < a'
            · have hda : decide ((0 : Int) < (a' : Int)) = true := decide_eq_true (by omega)
              have hda' : decide (0 < a') = true := decide_eq_true ha0
              have hq0 : (a' : Int) - 1 = ((a' - 1 : Nat) : Int) := by omega
              have c0 := h.cell (j := a' - 1) (by omega)
              have c1 := h.cell (j := p) (by omega)
              have hx1 : ((a' - 1 : Nat) : Int) < (n : Int) := by omega
              have hx2 : (p : Int) < (n : Int) := by omega
              obtain ⟨X, hX⟩ : ∃ X, d1[a' - 1]! = X := ⟨_, rfl⟩
              obtain ⟨Y, hY⟩ : ∃ Y, d1[p]! = Y := ⟨_, rfl⟩
              rw [hX] at c0
              rw [hY] at c1
              have HX := (show Hid _ from hX)
              have HY := (show Hid _ from hY)
              clear hX hY
              generalize a' - 1 = a1 at hq0 c0 hx1 HX
              go_wp2_with fail
              go_quiet (first | (go_at_call 189; refine Calls.quiet_of_same (Less_any _ _ _)))
              replace hg := hg.trans (grown_dN _ nq (some g))
              replace h := h.drewN nq
              generalize World.drewN _ _ = W6 at h hg ⊢
              cases hl : ltInt X Y
              · have hl' : ltInt d1[a' - 1]! d1[p]! = false := by
                  have e1 : a1 = a' - 1 := by omega
                  rw [← e1, HX.out, HY.out]; exact hl
                have hcall := partEq_any base g cap n a' b' p d1 _ h hp1 hp2 hb' hn
                clear c0 c1
                go_wp2_with fail
                refine hcall.mono ?_
                rintro e W7 ⟨mid, d4, heq, rfl, h4, hg4⟩
                obtain ⟨r1, r2, rsz, rB, rF⟩ := round_eq swo_ltInt (partitionEqual_holds ltInt) ha0 hp1 hp2 (by rw [h.size]; exact hb') hB hl' heq
                replace hg := hg.trans hg4
                have HB1 := (show Hid _ from rB)
                have HK2 : Hid (∀ R, PermIn mid b' d4 R → SortedIn ltInt mid b' R → PermIn a b d R ∧ SortedIn ltInt a b R) := fun R q1 q2 => HF.out R (rF R q1 q2).1 (rF R q1 q2).2
                clear rB rF heq hcall hg4 h hB hl' HX HY
                go_wp2
                go_roundw
                case rel => exact ⟨mid, b', l1, _, _, d4, rfl, rfl, rfl, rfl, rfl, by omega, by omega, by omega, by omega, h4, hg, HB1.out, HK2⟩
                case measure => simp [intOf] <;> omega
              · clear HX HY
                have hcall := partition_any base g cap n a' b' p d1 _ h hp1 hp2 hb' hn
                clear c0 c1
                go_wp2_with fail
                refine hcall.mono ?_
                rintro e W7 ⟨mid, ap, d4, heq, rfl, h4, hg4⟩
                obtain ⟨r1, r2, rsz, rB1, rB2, rL, rR⟩ := round_part swo_ltInt (partition_holds ltInt) hp1 hp2 (by rw [h.size]; exact hb') hB heq
                replace hg := hg.trans hg4
                have RL' := (show Hid _ from rL)
                have RR' := (show Hid _ from rR)
                have HB1 := (show Hid _ from rB1)
                have HB2 := (show Hid _ from rB2)
                clear rL rR rB1 rB2 heq hcall hg4 h hB
                by_cases hord : mid - a' < b' - mid
                · have hdo : decide ((mid : Int) - (a' : Int) < (b' : Int) - (mid : Int)) = true := decide_eq_true (by omega)
                  have hrec := ih (mid - a') (by omega) base g cap n a' mid l1 d4 _ rfl h4 r1 (by omega) hn (by omega) HB1.out
                  have HREC := (show Hid _ from hrec)
                  clear hrec
                  go_wp2_with fail
                  refine Calls.mono HREC.out ?_
                  rintro e W8 ⟨rfl, d5, h5, hp5, hs5, hg5⟩
                  obtain ⟨k1, k2⟩ := RL'.out d5 hp5 hs5
                  have HK1 := (show Hid _ from k1)
                  have HK2 : Hid (∀ R, PermIn (mid + 1) b' d5 R → SortedIn ltInt (mid + 1) b' R → PermIn a b d R ∧ SortedIn ltInt a b R) := fun R q1 q2 => HF.out R (k2 R q1 q2).1 (k2 R q1 q2).2
                  replace hg := hg.trans hg5
                  clear HREC k1 k2 hp5 hs5 hg5 h4
                  go_wp2
                  go_roundw
                  case rel => exact ⟨mid + 1, b', l1, _, ap, d5, by go_num, rfl, rfl, rfl, rfl, by omega, by omega, by omega, by omega, h5, hg, HK1.out, HK2⟩
                  case measure => simp [intOf] <;> omega
                · have hdo : decide ((mid : Int) - (a' : Int) < (b' : Int) - (mid : Int)) = false := decide_eq_false (by omega)
                  have hrec := ih (b' - (mid + 1)) (by omega) base g cap n (mid + 1) b' l1 d4 _ rfl h4 (by omega) (by omega) hn (by omega) HB2.out
                  have hmq : ((mid + 1 : Nat) : Int) = (mid : Int) + 1 := by omega
                  rw [hmq] at hrec
                  have HREC := (show Hid _ from hrec)
                  clear hrec hmq
                  go_wp2_with fail
                  refine Calls.mono HREC.out ?_
                  rintro e W8 ⟨rfl, d5, h5, hp5, hs5, hg5⟩
                  obtain ⟨k1, k2⟩ := RR'.out d5 hp5 hs5
                  have HK1 := (show Hid _ from k1)
                  have HK2 : Hid (∀ R, PermIn a' mid d5 R → SortedIn ltInt a' mid R → PermIn a b d R ∧ SortedIn ltInt a b R) := fun R q1 q2 => HF.out R (k2 R q1 q2).1 (k2 R q1 q2).2
                  replace hg := hg.trans hg5
                  clear HREC k1 k2 hp5 hs5 hg5 h4
                  go_wp2
                  go_roundw
                  case rel => exact ⟨a', mid, l1, _, ap, d5, rfl, rfl, rfl, rfl, rfl, by omega, by omega, by omega, by omega, h5, hg, HK1.out, HK2⟩
                  case measure => simp [intOf] <;> omega
            · have hda : decide ((0 : Int) < (a' : Int)) = false := decide_eq_false (by omega)
              have hda' : decide (0 < a') = false := decide_eq_false ha0
              have c0 := hda
              have c1 := hda
              go_wp2_with fail
              go_quiet (fail)
              replace hg := hg.trans (grown_dN _ nq (some g))
              replace h := h.drewN nq
              generalize World.drewN _ _ = W6 at h hg ⊢
              have hcall := partition_any base g cap n a' b' p d1 _ h hp1 hp2 hb' hn
              clear c0 c1
              go_wp2_with fail
              refine hcall.mono ?_
              rintro e W7 ⟨mid, ap, d4, heq, rfl, h4, hg4⟩
              obtain ⟨r1, r2, rsz, rB1, rB2, rL, rR⟩ := round_part swo_ltInt (partition_holds ltInt) hp1 hp2 (by rw [h.size]; exact hb') hB heq
              replace hg := hg.trans hg4
              have RL' := (show Hid _ from rL)
              have RR' := (show Hid _ from rR)
              have HB1 := (show Hid _ from rB1)
              have HB2 := (show Hid _ from rB2)
              clear rL rR rB1 rB2 heq hcall hg4 h hB
              by_cases hord : mid - a' < b' - mid
              · have hdo : decide ((mid : Int) - (a' : Int) < (b' : Int) - (mid : Int)) = true := decide_eq_true (by omega)
                have hrec := ih (mid - a') (by omega) base g cap n a' mid l1 d4 _ rfl h4 r1 (by omega) hn (by omega) HB1.out
                have HREC := (show Hid _ from hrec)
                clear hrec
                go_wp2_with fail
                refine Calls.mono HREC.out ?_
                rintro e W8 ⟨rfl, d5, h5, hp5, hs5, hg5⟩
                obtain ⟨k1, k2⟩ := RL'.out d5 hp5 hs5
                have HK1 := (show Hid _ from k1)
                have HK2 : Hid (∀ R, PermIn (mid + 1) b' d5 R → SortedIn ltInt (mid + 1) b' R → PermIn a b d R ∧ SortedIn ltInt a b R) := fun R q1 q2 => HF.out R (k2 R q1 q2).1 (k2 R q1 q2).2
                replace hg := hg.trans hg5
                clear HREC k1 k2 hp5 hs5 hg5 h4
                go_wp2
                go_roundw
                case rel => exact ⟨mid + 1, b', l1, _, ap, d5, by go_num, rfl, rfl, rfl, rfl, by omega, by omega, by omega, by omega, h5, hg, HK1.out, HK2⟩
                case measure => simp [intOf] <;> omega
              · have hdo : decide ((mid : Int) - (a' : Int) < (b' : Int) - (mid : Int)) = false := decide_eq_false (by omega)
                have hrec := ih (b' - (mid + 1)) (by omega) base g cap n (mid + 1) b' l1 d4 _ rfl h4 (by omega) (by omega) hn (by omega) HB2.out
                have hmq : ((mid + 1 : Nat) : Int) = (mid : Int) + 1 := by omega
                rw [hmq] at hrec
                have HREC := (show Hid _ from hrec)
                clear hrec hmq
                go_wp2_with fail
                refine Calls.mono HREC.out ?_
                rintro e W8 ⟨rfl, d5, h5, hp5, hs5, hg5⟩
                obtain ⟨k1, k2⟩ := RR'.out d5 hp5 hs5
                have HK1 := (show Hid _ from k1)
                have HK2 : Hid (∀ R, PermIn a' mid d5 R → SortedIn ltInt a' mid R → PermIn a b d R ∧ SortedIn ltInt a b R) := fun R q1 q2 => HF.out R (k2 R q1 q2).1 (k2 R q1 q2).2
                replace hg := hg.trans hg5
                clear HREC k1 k2 hp5 hs5 hg5 h4
                go_wp2
                go_roundw
                case rel => exact ⟨a', mid, l1, _, ap, d5, rfl, rfl, rfl, rfl, rfl, by omega, by omega, by omega, by omega, h5, hg, HK1.out, HK2⟩
                case measure => simp [intOf] <;> omega
        · have hcall := choosePivot_any base g cap n a' b' d1 _ h (by omega) hb' hn
          go_wp2_with fail
          refine hcall.mono ?_
          rintro e W4 ⟨p, t, rfl, hp1, hp2, h4, hb4⟩
          replace hg := hg.trans (⟨hb4.os, hb4.tape, hb4.output, hb4.size, fun k hk _ => hb4.block k hk⟩ : World.grownBy _ W4 (some g))
          clear hcall h hb4
          have h := h4
          clear h4
          have hcp := hp1
          cases wp
          · by_cases ht2 : t = 2
            · subst ht2
              have hcall := reverse_any base g cap n a' b' d1 _ h (by omega) hb' hn
              clear hcp
              go_wp2_with fail
              refine hcall.mono ?_
              rintro e W5 ⟨rfl, h5, hg5⟩
              have hperm := reverseRange_holds d1 a' b' (by omega) (by rw [h.size]; exact hb')
              replace hB := Go.Sort.Below.perm hB (by rw [h.size]; exact hb') hperm
              have HF0 := HF
              replace HF : Hid (∀ R, PermIn a' b' (reverseRange d1 a' b') R → SortedIn ltInt a' b' R → PermIn a b d R ∧ SortedIn ltInt a b R) := fun R q1 q2 => HF0.out R (permIn_trans _ _ _ _ _ hperm q1) q2
              replace hg := hg.trans hg5
              clear HF0 hperm hcall hg5 h
              have h := h5
              clear h5
              generalize reverseRange d1 a' b' = d2 at h hB HF
              obtain ⟨p2, hp2e⟩ : ∃ p2, p2 + (p - a') = b' - 1 := ⟨b' - 1 - (p - a'), by omega⟩
              have hqp : (b' : Int) - 1 - ((p : Int) - (a' : Int)) = (p2 : Int) := by omega
              replace hp1 : a' ≤ p2 := by omega
              replace hp2 : p2 < b' := by omega
              clear hp2e
              by_cases ha0 : 0 < a'
              · have hda : decide ((0 : Int) < (a' : Int)) = true := decide_eq_true (by omega)
                have hda' : decide (0 < a') = true := decide_eq_true ha0
                have hq0 : (a' : Int) - 1 = ((a' - 1 : Nat) : Int) := by omega
                have c0 := h.cell (j := a' - 1) (by omega)
                have c1 := h.cell (j := p2) (by omega)
                have hx1 : ((a' - 1 : Nat) : Int) < (n : Int) := by omega
                have hx2 : (p2 : Int) < (n : Int) := by omega
                obtain ⟨X, hX⟩ : ∃ X, d2[a' - 1]! = X := ⟨_, rfl⟩
                obtain ⟨Y, hY⟩ : ∃ Y, d2[p2]! = Y := ⟨_, rfl⟩
                rw [hX] at c0
                rw [hY] at c1
                have HX := (show Hid _ from hX)
                have HY := (show Hid _ from hY)
                clear hX hY
                generalize a' - 1 = a1 at hq0 c0 hx1 HX
                go_wp2_with fail
                go_quiet (first | (go_at_call 189; refine Calls.quiet_of_same (Less_any _ _ _)))
                replace hg := hg.trans (grown_dN _ nq (some g))
                replace h := h.drewN nq
                generalize World.drewN _ _ = W6 at h hg ⊢
                cases hl : ltInt X Y
                · have hl' : ltInt d2[a' - 1]! d2[p2]! = false := by
                    have e1 : a1 = a' - 1 := by omega
                    rw [← e1, HX.out, HY.out]; exact hl
                  have hcall := partEq_any base g cap n a' b' p2 d2 _ h hp1 hp2 hb' hn
                  clear c0 c1
                  go_wp2_with fail
                  refine hcall.mono ?_
                  rintro e W7 ⟨mid, d4, heq, rfl, h4, hg4⟩
                  obtain ⟨r1, r2, rsz, rB, rF⟩ := round_eq swo_ltInt (partitionEqual_holds ltInt) ha0 hp1 hp2 (by rw [h.size]; exact hb') hB hl' heq
                  replace hg := hg.trans hg4
                  have HB1 := (show Hid _ from rB)
                  have HK2 : Hid (∀ R, PermIn mid b' d4 R → SortedIn ltInt mid b' R → PermIn a b d R ∧ SortedIn ltInt a b R) := fun R q1 q2 => HF.out R (rF R q1 q2).1 (rF R q1 q2).2
                  clear rB rF heq hcall hg4 h hB hl' HX HY
                  go_wp2
                  go_roundw
                  case rel => exact ⟨mid, b', lim, _, _, d4, rfl, rfl, rfl, rfl, rfl, by omega, by omega, by omega, by omega, h4, hg, HB1.out, HK2⟩
                  case measure => simp [intOf] <;> omega
                · clear HX HY
                  have hcall := partition_any base g cap n a' b' p2 d2 _ h hp1 hp2 hb' hn
                  clear c0 c1
                  go_wp2_with fail
                  refine hcall.mono ?_
                  rintro e W7 ⟨mid, ap, d4, heq, rfl, h4, hg4⟩
                  obtain ⟨r1, r2, rsz, rB1, rB2, rL, rR⟩ := round_part swo_ltInt (partition_holds ltInt) hp1 hp2 (by rw [h.size]; exact hb') hB heq
                  replace hg := hg.trans hg4
                  have RL' := (show Hid _ from rL)
                  have RR' := (show Hid _ from rR)
                  have HB1 := (show Hid _ from rB1)
                  have HB2 := (show Hid _ from rB2)
                  clear rL rR rB1 rB2 heq hcall hg4 h hB
                  by_cases hord : mid - a' < b' - mid
                  · have hdo : decide ((mid : Int) - (a' : Int) < (b' : Int) - (mid : Int)) = true := decide_eq_true (by omega)
                    have hrec := ih (mid - a') (by omega) base g cap n a' mid lim d4 _ rfl h4 r1 (by omega) hn (by omega) HB1.out
                    have HREC := (show Hid _ from hrec)
                    clear hrec
                    go_wp2_with fail
                    refine Calls.mono HREC.out ?_
                    rintro e W8 ⟨rfl, d5, h5, hp5, hs5, hg5⟩
                    obtain ⟨k1, k2⟩ := RL'.out d5 hp5 hs5
                    have HK1 := (show Hid _ from k1)
                    have HK2 : Hid (∀ R, PermIn (mid + 1) b' d5 R → SortedIn ltInt (mid + 1) b' R → PermIn a b d R ∧ SortedIn ltInt a b R) := fun R q1 q2 => HF.out R (k2 R q1 q2).1 (k2 R q1 q2).2
                    replace hg := hg.trans hg5
                    clear HREC k1 k2 hp5 hs5 hg5 h4
                    go_wp2
                    go_roundw
                    case rel => exact ⟨mid + 1, b', lim, _, ap, d5, by go_num, rfl, rfl, rfl, rfl, by omega, by omega, by omega, by omega, h5, hg, HK1.out, HK2⟩
                    case measure => simp [intOf] <;> omega
                  · have hdo : decide ((mid : Int) - (a' : Int) < (b' : Int) - (mid : Int)) = false := decide_eq_false (by omega)
                    have hrec := ih (b' - (mid + 1)) (by omega) base g cap n (mid + 1) b' lim d4 _ rfl h4 (by omega) (by omega) hn (by omega) HB2.out
                    have hmq : ((mid + 1 : Nat) : Int) = (mid : Int) + 1 := by omega
                    rw [hmq] at hrec
                    have HREC := (show Hid _ from hrec)
                    clear hrec hmq
                    go_wp2_with fail
                    refine Calls.mono HREC.out ?_
                    rintro e W8 ⟨rfl, d5, h5, hp5, hs5, hg5⟩
                    obtain ⟨k1, k2⟩ := RR'.out d5 hp5 hs5
                    have HK1 := (show Hid _ from k1)
                    have HK2 : Hid (∀ R, PermIn a' mid d5 R → SortedIn ltInt a' mid R → PermIn a b d R ∧ SortedIn ltInt a b R) := fun R q1 q2 => HF.out R (k2 R q1 q2).1 (k2 R q1 q2).2
                    replace hg := hg.trans hg5
                    clear HREC k1 k2 hp5 hs5 hg5 h4
                    go_wp2
                    go_roundw
                    case rel => exact ⟨a', mid, lim, _, ap, d5, rfl, rfl, rfl, rfl, rfl, by omega, by omega, by omega, by omega, h5, hg, HK1.out, HK2⟩
                    case measure => simp [intOf] <;> omega
              · have hda : decide ((0 : Int) < (a' : Int)) = false := decide_eq_false (by omega)
                have hda' : decide (0 < a') = false := decide_eq_false ha0
                have c0 := hda
                have c1 := hda
                go_wp2_with fail
                go_quiet (fail)
                replace hg := hg.trans (grown_dN _ nq (some g))
                replace h := h.drewN nq
                generalize World.drewN _ _ = W6 at h hg ⊢
                have hcall := partition_any base g cap n a' b' p2 d2 _ h hp1 hp2 hb' hn
                clear c0 c1
                go_wp2_with fail
                refine hcall.mono ?_
                rintro e W7 ⟨mid, ap, d4, heq, rfl, h4, hg4⟩
                obtain ⟨r1, r2, rsz, rB1, rB2, rL, rR⟩ := round_part swo_ltInt (partition_holds ltInt) hp1 hp2 (by rw [h.size]; exact hb') hB heq
                replace hg := hg.trans hg4
                have RL' := (show Hid _ from rL)
                have RR' := (show Hid _ from rR)
                have HB1 := (show Hid _ from rB1)
                have HB2 := (show Hid _ from rB2)
                clear rL rR rB1 rB2 heq hcall hg4 h hB
                by_cases hord : mid - a' < b' - mid
                · have hdo : decide ((mid : Int) - (a' : Int) < (b' : Int) - (mid : Int)) = true := decide_eq_true (by omega)
                  have hrec := ih (mid - a') (by omega) base g cap n a' mid lim d4 _ rfl h4 r1 (by omega) hn (by omega) HB1.out
                  have HREC := (show Hid _ from hrec)
                  clear hrec
                  go_wp2_with fail
                  refine Calls.mono HREC.out ?_
                  rintro e W8 ⟨rfl, d5, h5, hp5, hs5, hg5⟩
                  obtain ⟨k1, k2⟩ := RL'.out d5 hp5 hs5
                  have HK1 := (show Hid _ from k1)
                  have HK2 : Hid (∀ R, PermIn (mid + 1) b' d5 R → SortedIn ltInt (mid + 1) b' R → PermIn a b d R ∧ SortedIn ltInt a b R) := fun R q1 q2 => HF.out R (k2 R q1 q2).1 (k2 R q1 q2).2
                  replace hg := hg.trans hg5
                  clear HREC k1 k2 hp5 hs5 hg5 h4
                  go_wp2
                  go_roundw
                  case rel => exact ⟨mid + 1, b', lim, _, ap, d5, by go_num, rfl, rfl, rfl, rfl, by omega, by omega, by omega, by omega, h5, hg, HK1.out, HK2⟩
                  case measure => simp [intOf] <;> omega
                · have hdo : decide ((mid : Int) - (a' : Int) < (b' : Int) - (mid : Int)) = false := decide_eq_false (by omega)
                  have hrec := ih (b' - (mid + 1)) (by omega) base g cap n (mid + 1) b' lim d4 _ rfl h4 (by omega) (by omega) hn (by omega) HB2.out
                  have hmq : ((mid + 1 : Nat) : Int) = (mid : Int) + 1 := by omega
                  rw [hmq] at hrec
                  have HREC := (show Hid _ from hrec)
                  clear hrec hmq
                  go_wp2_with fail
                  refine Calls.mono HREC.out ?_
                  rintro e W8 ⟨rfl, d5, h5, hp5, hs5, hg5⟩
                  obtain ⟨k1, k2⟩ := RR'.out d5 hp5 hs5
                  have HK1 := (show Hid _ from k1)
                  have HK2 : Hid (∀ R, PermIn a' mid d5 R → SortedIn ltInt a' mid R → PermIn a b d R ∧ SortedIn ltInt a b R) := fun R q1 q2 => HF.out R (k2 R q1 q2).1 (k2 R q1 q2).2
                  replace hg := hg.trans hg5
                  clear HREC k1 k2 hp5 hs5 hg5 h4
                  go_wp2
                  go_roundw
                  case rel => exact ⟨a', mid, lim, _, ap, d5, rfl, rfl, rfl, rfl, rfl, by omega, by omega, by omega, by omega, h5, hg, HK1.out, HK2⟩
                  case measure => simp [intOf] <;> omega
            · have hdt2 : (t == 2) = false := by rw [beq_eq_false_iff_ne]; exact ht2
              by_cases ha0 : 0 < a'
              · have hda : decide ((0 : Int) < (a' : Int)) = true := decide_eq_true (by omega)
                have hda' : decide (0 < a') = true := decide_eq_true ha0
                have hq0 : (a' : Int) - 1 = ((a' - 1 : Nat) : Int) := by omega
                have c0 := h.cell (j := a' - 1) (by omega)
                have c1 := h.cell (j := p) (by omega)
                have hx1 : ((a' - 1 : Nat) : Int) < (n : Int) := by omega
                have hx2 : (p : Int) < (n : Int) := by omega
                obtain ⟨X, hX⟩ : ∃ X, d1[a' - 1]! = X := ⟨_, rfl⟩
                obtain ⟨Y, hY⟩ : ∃ Y, d1[p]! = Y := ⟨_, rfl⟩
                rw [hX] at c0
                rw [hY] at c1
                have HX := (show Hid _ from hX)
                have HY := (show Hid _ from hY)
                clear hX hY
                generalize a' - 1 = a1 at hq0 c0 hx1 HX
                go_wp2_with fail
                go_quiet (first | (go_at_call 189; refine Calls.quiet_of_same (Less_any _ _ _)))
                replace hg := hg.trans (grown_dN _ nq (some g))
                replace h := h.drewN nq
                generalize World.drewN _ _ = W6 at h hg ⊢
                cases hl : ltInt X Y
                · have hl' : ltInt d1[a' - 1]! d1[p]! = false := by
                    have e1 : a1 = a' - 1 := by omega
                    rw [← e1, HX.out, HY.out]; exact hl
                  have hcall := partEq_any base g cap n a' b' p d1 _ h hp1 hp2 hb' hn
                  clear c0 c1
                  go_wp2_with fail
                  refine hcall.mono ?_
                  rintro e W7 ⟨mid, d4, heq, rfl, h4, hg4⟩
                  obtain ⟨r1, r2, rsz, rB, rF⟩ := round_eq swo_ltInt (partitionEqual_holds ltInt) ha0 hp1 hp2 (by rw [h.size]; exact hb') hB hl' heq
                  replace hg := hg.trans hg4
                  have HB1 := (show Hid _ from rB)
                  have HK2 : Hid (∀ R, PermIn mid b' d4 R → SortedIn ltInt mid b' R → PermIn a b d R ∧ SortedIn ltInt a b R) := fun R q1 q2 => HF.out R (rF R q1 q2).1 (rF R q1 q2).2
                  clear rB rF heq hcall hg4 h hB hl' HX HY
                  go_wp2
                  go_roundw
                  case rel => exact ⟨mid, b', lim, _, _, d4, rfl, rfl, rfl, rfl, rfl, by omega, by omega, by omega, by omega, h4, hg, HB1.out, HK2⟩
                  case measure => simp [intOf] <;> omega
                · clear HX HY
                  have hcall := partition_any base g cap n a' b' p d1 _ h hp1 hp2 hb' hn
                  clear c0 c1
                  go_wp2_with fail
                  refine hcall.mono ?_
                  rintro e W7 ⟨mid, ap, d4, heq, rfl, h4, hg4⟩
                  obtain ⟨r1, r2, rsz, rB1, rB2, rL, rR⟩ := round_part swo_ltInt (partition_holds ltInt) hp1 hp2 (by rw [h.size]; exact hb') hB heq
                  replace hg := hg.trans hg4
                  have RL' := (show Hid _ from rL)
                  have RR' := (show Hid _ from rR)
                  have HB1 := (show Hid _ from rB1)
                  have HB2 := (show Hid _ from rB2)
                  clear rL rR rB1 rB2 heq hcall hg4 h hB
                  by_cases hord : mid - a' < b' - mid
                  · have hdo : decide ((mid : Int) - (a' : Int) < (b' : Int) - (mid : Int)) = true := decide_eq_true (by omega)
                    have hrec := ih (mid - a') (by omega) base g cap n a' mid lim d4 _ rfl h4 r1 (by omega) hn (by omega) HB1.out
                    have HREC := (show Hid _ from hrec)
                    clear hrec
                    go_wp2_with fail
                    refine Calls.mono HREC.out ?_
                    rintro e W8 ⟨rfl, d5, h5, hp5, hs5, hg5⟩
                    obtain ⟨k1, k2⟩ := RL'.out d5 hp5 hs5
                    have HK1 := (show Hid _ from k1)
                    have HK2 : Hid (∀ R, PermIn (mid + 1) b' d5 R → SortedIn ltInt (mid + 1) b' R → PermIn a b d R ∧ SortedIn ltInt a b R) := fun R q1 q2 => HF.out R (k2 R q1 q2).1 (k2 R q1 q2).2
                    replace hg := hg.trans hg5
                    clear HREC k1 k2 hp5 hs5 hg5 h4
                    go_wp2
                    go_roundw
                    case rel => exact ⟨mid + 1, b', lim, _, ap, d5, by go_num, rfl, rfl, rfl, rfl, by omega, by omega, by omega, by omega, h5, hg, HK1.out, HK2⟩
                    case measure => simp [intOf] <;> omega
                  · have hdo : decide ((mid : Int) - (a' : Int) < (b' : Int) - (mid : Int)) = false := decide_eq_false (by omega)
                    have hrec := ih (b' - (mid + 1)) (by omega) base g cap n (mid + 1) b' lim d4 _ rfl h4 (by omega) (by omega) hn (by omega) HB2.out
                    have hmq : ((mid + 1 : Nat) : Int) = (mid : Int) + 1 := by omega
                    rw [hmq] at hrec
                    have HREC := (show Hid _ from hrec)
                    clear hrec hmq
                    go_wp2_with fail
                    refine Calls.mono HREC.out ?_
                    rintro e W8 ⟨rfl, d5, h5, hp5, hs5, hg5⟩
                    obtain ⟨k1, k2⟩ := RR'.out d5 hp5 hs5
                    have HK1 := (show Hid _ from k1)
                    have HK2 : Hid (∀ R, PermIn a' mid d5 R → SortedIn ltInt a' mid R → PermIn a b d R ∧ SortedIn ltInt a b R) := fun R q1 q2 => HF.out R (k2 R q1 q2).1 (k2 R q1 q2).2
                    replace hg := hg.trans hg5
                    clear HREC k1 k2 hp5 hs5 hg5 h4
                    go_wp2
                    go_roundw
                    case rel => exact ⟨a', mid, lim, _, ap, d5, rfl, rfl, rfl, rfl, rfl, by omega, by omega, by omega, by omega, h5, hg, HK1.out, HK2⟩
                    case measure => simp [intOf] <;> omega
              · have hda : decide ((0 : Int) < (a' : Int)) = false := decide_eq_false (by omega)
                have hda' : decide (0 < a') = false := decide_eq_false ha0
                have c0 := hda
                have c1 := hda
                go_wp2_with fail
                go_quiet (fail)
                replace hg := hg.trans (grown_dN _ nq (some g))
                replace h := h.drewN nq
                generalize World.drewN _ _ = W6 at h hg ⊢
                have hcall := partition_any base g cap n a' b' p d1 _ h hp1 hp2 hb' hn
                clear c0 c1
                go_wp2_with fail
                refine hcall.mono ?_
                rintro e W7 ⟨mid, ap, d4, heq, rfl, h4, hg4⟩
                obtain ⟨r1, r2, rsz, rB1, rB2, rL, rR⟩ := round_part swo_ltInt (partition_holds ltInt) hp1 hp2 (by rw [h.size]; exact hb') hB heq
                replace hg := hg.trans hg4
                have RL' := (show Hid _ from rL)
                have RR' := (show Hid _ from rR)
                have HB1 := (show Hid _ from rB1)
                have HB2 := (show Hid _ from rB2)
                clear rL rR rB1 rB2 heq hcall hg4 h hB
                by_cases hord : mid - a' < b' - mid
                · have hdo : decide ((mid : Int) - (a' : Int) < (b' : Int) - (mid : Int)) = true := decide_eq_true (by omega)
                  have hrec := ih (mid - a') (by omega) base g cap n a' mid lim d4 _ rfl h4 r1 (by omega) hn (by omega) HB1.out
                  have HREC := (show Hid _ from hrec)
                  clear hrec
                  go_wp2_with fail
                  refine Calls.mono HREC.out ?_
                  rintro e W8 ⟨rfl, d5, h5, hp5, hs5, hg5⟩
                  obtain ⟨k1, k2⟩ := RL'.out d5 hp5 hs5
                  have HK1 := (show Hid _ from k1)
                  have HK2 : Hid (∀ R, PermIn (mid + 1) b' d5 R → SortedIn ltInt (mid + 1) b' R → PermIn a b d R ∧ SortedIn ltInt a b R) := fun R q1 q2 => HF.out R (k2 R q1 q2).1 (k2 R q1 q2).2
                  replace hg := hg.trans hg5
                  clear HREC k1 k2 hp5 hs5 hg5 h4
                  go_wp2
                  go_roundw
                  case rel => exact ⟨mid + 1, b', lim, _, ap, d5, by go_num, rfl, rfl, rfl, rfl, by omega, by omega, by omega, by omega, h5, hg, HK1.out, HK2⟩
                  case measure => simp [intOf] <;> omega
                · have hdo : decide ((mid : Int) - (a' : Int) < (b' : Int) - (mid : Int)) = false := decide_eq_false (by omega)
                  have hrec := ih (b' - (mid + 1)) (by omega) base g cap n (mid + 1) b' lim d4 _ rfl h4 (by omega) (by omega) hn (by omega) HB2.out
                  have hmq : ((mid + 1 : Nat) : Int) = (mid : Int) + 1 := by omega
                  rw [hmq] at hrec
                  have HREC := (show Hid _ from hrec)
                  clear hrec hmq
                  go_wp2_with fail
                  refine Calls.mono HREC.out ?_
                  rintro e W8 ⟨rfl, d5, h5, hp5, hs5, hg5⟩
                  obtain ⟨k1, k2⟩ := RR'.out d5 hp5 hs5
                  have HK1 := (show Hid _ from k1)
                  have HK2 : Hid (∀ R, PermIn a' mid d5 R → SortedIn ltInt a' mid R → PermIn a b d R ∧ SortedIn ltInt a b R) := fun R q1 q2 => HF.out R (k2 R q1 q2).1 (k2 R q1 q2).2
                  replace hg := hg.trans hg5
                  clear HREC k1 k2 hp5 hs5 hg5 h4
                  go_wp2
                  go_roundw
                  case rel => exact ⟨a', mid, lim, _, ap, d5, rfl, rfl, rfl, rfl, rfl, by omega, by omega, by omega, by omega, h5, hg, HK1.out, HK2⟩
                  case measure => simp [intOf] <;> omega
          · by_cases ht2 : t = 2
            · subst ht2
              have hcall := reverse_any base g cap n a' b' d1 _ h (by omega) hb' hn
              clear hcp
              go_wp2_with fail
              refine hcall.mono ?_
              rintro e W5 ⟨rfl, h5, hg5⟩
              have hperm := reverseRange_holds d1 a' b' (by omega) (by rw [h.size]; exact hb')
              replace hB := Go.Sort.Below.perm hB (by rw [h.size]; exact hb') hperm
              have HF0 := HF
              replace HF : Hid (∀ R, PermIn a' b' (reverseRange d1 a' b') R → SortedIn ltInt a' b' R → PermIn a b d R ∧ SortedIn ltInt a b R) := fun R q1 q2 => HF0.out R (permIn_trans _ _ _ _ _ hperm q1) q2
              replace hg := hg.trans hg5
              clear HF0 hperm hcall hg5 h
              have h := h5
              clear h5
              generalize reverseRange d1 a' b' = d2 at h hB HF
              obtain ⟨p2, hp2e⟩ : ∃ p2, p2 + (p - a') = b' - 1 := ⟨b' - 1 - (p - a'), by omega⟩
              have hqp : (b' : Int) - 1 - ((p : Int) - (a' : Int)) = (p2 : Int) := by omega
              replace hp1 : a' ≤ p2 := by omega
              replace hp2 : p2 < b' := by omega
              clear hp2e
              have hcall := partIns_any base g cap n a' b' d2 _ h (by omega) hb' hn
              go_wp2_with fail
              refine hcall.mono ?_
              rintro e W5 ⟨c, d3, heq, rfl, h5, hg5⟩
              obtain ⟨hperm, hsorted⟩ := partialInsertionSort_holds swo_ltInt d2 a' b' (by omega) (by rw [h.size]; exact hb') hB
              rw [heq] at hperm hsorted
              replace hB := Go.Sort.Below.perm hB (by rw [h.size]; exact hb') hperm
              replace hg := hg.trans hg5
              have HF0 := HF
              replace HF : Hid (∀ R, PermIn a' b' d3 R → SortedIn ltInt a' b' R → PermIn a b d R ∧ SortedIn ltInt a b R) := fun R q1 q2 => HF0.out R (permIn_trans _ _ _ _ _ hperm q1) q2
              clear HF0 hperm heq hcall hg5 h
              have h := h5
              clear h5
              cases c
              · clear hsorted
                by_cases ha0 : 0 < a'
                · have hda : decide ((0 : Int) < (a' : Int)) = true := decide_eq_true (by omega)
                  have hda' : decide (0 < a') = true := decide_eq_true ha0
                  have hq0 : (a' : Int) - 1 = ((a' - 1 : Nat) : Int) := by omega
                  have c0 := h.cell (j := a' - 1) (by omega)
                  have c1 := h.cell (j := p2) (by omega)
                  have hx1 : ((a' - 1 : Nat) : Int) < (n : Int) := by omega
                  have hx2 : (p2 : Int) < (n : Int) := by omega
                  obtain ⟨X, hX⟩ : ∃ X, d3[a' - 1]! = X := ⟨_, rfl⟩
                  obtain ⟨Y, hY⟩ : ∃ Y, d3[p2]! = Y := ⟨_, rfl⟩
                  rw [hX] at c0
                  rw [hY] at c1
                  have HX := (show Hid _ from hX)
                  have HY := (show Hid _ from hY)
                  clear hX hY
                  generalize a' - 1 = a1 at hq0 c0 hx1 HX
                  go_wp2_with fail
                  go_quiet (first | (go_at_call 189; refine Calls.quiet_of_same (Less_any _ _ _)))
                  replace hg := hg.trans (grown_dN _ nq (some g))
                  replace h := h.drewN nq
                  generalize World.drewN _ _ = W6 at h hg ⊢
                  cases hl : ltInt X Y
                  · have hl' : ltInt d3[a' - 1]! d3[p2]! = false := by
                      have e1 : a1 = a' - 1 := by omega
                      rw [← e1, HX.out, HY.out]; exact hl
                    have hcall := partEq_any base g cap n a' b' p2 d3 _ h hp1 hp2 hb' hn
                    clear c0 c1
                    go_wp2_with fail
                    refine hcall.mono ?_
                    rintro e W7 ⟨mid, d4, heq, rfl, h4, hg4⟩
                    obtain ⟨r1, r2, rsz, rB, rF⟩ := round_eq swo_ltInt (partitionEqual_holds ltInt) ha0 hp1 hp2 (by rw [h.size]; exact hb') hB hl' heq
                    replace hg := hg.trans hg4
                    have HB1 := (show Hid _ from rB)
                    have HK2 : Hid (∀ R, PermIn mid b' d4 R → SortedIn ltInt mid b' R → PermIn a b d R ∧ SortedIn ltInt a b R) := fun R q1 q2 => HF.out R (rF R q1 q2).1 (rF R q1 q2).2
                    clear rB rF heq hcall hg4 h hB hl' HX HY
                    go_wp2
                    go_roundw
                    case rel => exact ⟨mid, b', lim, _, _, d4, rfl, rfl, rfl, rfl, rfl, by omega, by omega, by omega, by omega, h4, hg, HB1.out, HK2⟩
                    case measure => simp [intOf] <;> omega
                  · clear HX HY
                    have hcall := partition_any base g cap n a' b' p2 d3 _ h hp1 hp2 hb' hn
                    clear c0 c1
                    go_wp2_with fail
                    refine hcall.mono ?_
                    rintro e W7 ⟨mid, ap, d4, heq, rfl, h4, hg4⟩
                    obtain ⟨r1, r2, rsz, rB1, rB2, rL, rR⟩ := round_part swo_ltInt (partition_holds ltInt) hp1 hp2 (by rw [h.size]; exact hb') hB heq
                    replace hg := hg.trans hg4
                    have RL' := (show Hid _ from rL)
                    have RR' := (show Hid _ from rR)
                    have HB1 := (show Hid _ from rB1)
                    have HB2 := (show Hid _ from rB2)
                    clear rL rR rB1 rB2 heq hcall hg4 h hB
                    by_cases hord : mid - a' < b' - mid
                    · have hdo : decide ((mid : Int) - (a' : Int) < (b' : Int) - (mid : Int)) = true := decide_eq_true (by omega)
                      have hrec := ih (mid - a') (by omega) base g cap n a' mid lim d4 _ rfl h4 r1 (by omega) hn (by omega) HB1.out
                      have HREC := (show Hid _ from hrec)
                      clear hrec
                      go_wp2_with fail
                      refine Calls.mono HREC.out ?_
                      rintro e W8 ⟨rfl, d5, h5, hp5, hs5, hg5⟩
                      obtain ⟨k1, k2⟩ := RL'.out d5 hp5 hs5
                      have HK1 := (show Hid _ from k1)
                      have HK2 : Hid (∀ R, PermIn (mid + 1) b' d5 R → SortedIn ltInt (mid + 1) b' R → PermIn a b d R ∧ SortedIn ltInt a b R) := fun R q1 q2 => HF.out R (k2 R q1 q2).1 (k2 R q1 q2).2
                      replace hg := hg.trans hg5
                      clear HREC k1 k2 hp5 hs5 hg5 h4
                      go_wp2
                      go_roundw
                      case rel => exact ⟨mid + 1, b', lim, _, ap, d5, by go_num, rfl, rfl, rfl, rfl, by omega, by omega, by omega, by omega, h5, hg, HK1.out, HK2⟩
                      case measure => simp [intOf] <;> omega
                    · have hdo : decide ((mid : Int) - (a' : Int) < (b' : Int) - (mid : Int)) = false := decide_eq_false (by omega)
                      have hrec := ih (b' - (mid + 1)) (by omega) base g cap n (mid + 1) b' lim d4 _ rfl h4 (by omega) (by omega) hn (by omega) HB2.out
                      have hmq : ((mid + 1 : Nat) : Int) = (mid : Int) + 1 := by omega
                      rw [hmq] at hrec
                      have HREC := (show Hid _ from hrec)
                      clear hrec hmq
                      go_wp2_with fail
                      refine Calls.mono HREC.out ?_
                      rintro e W8 ⟨rfl, d5, h5, hp5, hs5, hg5⟩
                      obtain ⟨k1, k2⟩ := RR'.out d5 hp5 hs5
                      have HK1 := (show Hid _ from k1)
                      have HK2 : Hid (∀ R, PermIn a' mid d5 R → SortedIn ltInt a' mid R → PermIn a b d R ∧ SortedIn ltInt a b R) := fun R q1 q2 => HF.out R (k2 R q1 q2).1 (k2 R q1 q2).2
                      replace hg := hg.trans hg5
                      clear HREC k1 k2 hp5 hs5 hg5 h4
                      go_wp2
                      go_roundw
                      case rel => exact ⟨a', mid, lim, _, ap, d5, rfl, rfl, rfl, rfl, rfl, by omega, by omega, by omega, by omega, h5, hg, HK1.out, HK2⟩
                      case measure => simp [intOf] <;> omega
                · have hda : decide ((0 : Int) < (a' : Int)) = false := decide_eq_false (by omega)
                  have hda' : decide (0 < a') = false := decide_eq_false ha0
                  have c0 := hda
                  have c1 := hda
                  go_wp2_with fail
                  go_quiet (fail)
                  replace hg := hg.trans (grown_dN _ nq (some g))
                  replace h := h.drewN nq
                  generalize World.drewN _ _ = W6 at h hg ⊢
                  have hcall := partition_any base g cap n a' b' p2 d3 _ h hp1 hp2 hb' hn
                  clear c0 c1
                  go_wp2_with fail
                  refine hcall.mono ?_
                  rintro e W7 ⟨mid, ap, d4, heq, rfl, h4, hg4⟩
                  obtain ⟨r1, r2, rsz, rB1, rB2, rL, rR⟩ := round_part swo_ltInt (partition_holds ltInt) hp1 hp2 (by rw [h.size]; exact hb') hB heq
                  replace hg := hg.trans hg4
                  have RL' := (show Hid _ from rL)
                  have RR' := (show Hid _ from rR)
                  have HB1 := (show Hid _ from rB1)
                  have HB2 := (show Hid _ from rB2)
                  clear rL rR rB1 rB2 heq hcall hg4 h hB
                  by_cases hord : mid - a' < b' - mid
                  · have hdo : decide ((mid : Int) - (a' : Int) < (b' : Int) - (mid : Int)) = true := decide_eq_true (by omega)
                    have hrec := ih (mid - a') (by omega) base g cap n a' mid lim d4 _ rfl h4 r1 (by omega) hn (by omega) HB1.out
                    have HREC := (show Hid _ from hrec)
                    clear hrec
                    go_wp2_with fail
                    refine Calls.mono HREC.out ?_
                    rintro e W8 ⟨rfl, d5, h5, hp5, hs5, hg5⟩
                    obtain ⟨k1, k2⟩ := RL'.out d5 hp5 hs5
                    have HK1 := (show Hid _ from k1)
                    have HK2 : Hid (∀ R, PermIn (mid + 1) b' d5 R → SortedIn ltInt (mid + 1) b' R → PermIn a b d R ∧ SortedIn ltInt a b R) := fun R q1 q2 => HF.out R (k2 R q1 q2).1 (k2 R q1 q2).2
                    replace hg := hg.trans hg5
                    clear HREC k1 k2 hp5 hs5 hg5 h4
                    go_wp2
                    go_roundw
                    case rel => exact ⟨mid + 1, b', lim, _, ap, d5, by go_num, rfl, rfl, rfl, rfl, by omega, by omega, by omega, by omega, h5, hg, HK1.out, HK2⟩
                    case measure => simp [intOf] <;> omega
                  · have hdo : decide ((mid : Int) - (a' : Int) < (b' : Int) - (mid : Int)) = false := decide_eq_false (by omega)
                    have hrec := ih (b' - (mid + 1)) (by omega) base g cap n (mid + 1) b' lim d4 _ rfl h4 (by omega) (by omega) hn (by omega) HB2.out
                    have hmq : ((mid + 1 : Nat) : Int) = (mid : Int) + 1 := by omega
                    rw [hmq] at hrec
                    have HREC := (show Hid _ from hrec)
                    clear hrec hmq
                    go_wp2_with fail
                    refine Calls.mono HREC.out ?_
                    rintro e W8 ⟨rfl, d5, h5, hp5, hs5, hg5⟩
                    obtain ⟨k1, k2⟩ := RR'.out d5 hp5 hs5
                    have HK1 := (show Hid _ from k1)
                    have HK2 : Hid (∀ R, PermIn a' mid d5 R → SortedIn ltInt a' mid R → PermIn a b d R ∧ SortedIn ltInt a b R) := fun R q1 q2 => HF.out R (k2 R q1 q2).1 (k2 R q1 q2).2
                    replace hg := hg.trans hg5
                    clear HREC k1 k2 hp5 hs5 hg5 h4
                    go_wp2
                    go_roundw
                    case rel => exact ⟨a', mid, lim, _, ap, d5, rfl, rfl, rfl, rfl, rfl, by omega, by omega, by omega, by omega, h5, hg, HK1.out, HK2⟩
                    case measure => simp [intOf] <;> omega
              · obtain ⟨f1, f2⟩ := HF.out d3 (permIn_refl _ _ _) (hsorted rfl)
                clear hsorted
                go_wp2
                go_returns
                exact ⟨rfl, d3, h, f1, f2, hg⟩
            · have hdt2 : (t == 2) = false := by rw [beq_eq_false_iff_ne]; exact ht2
              by_cases ht1 : t = 1
              · subst ht1
                have hcall := partIns_any base g cap n a' b' d1 _ h (by omega) hb' hn
                go_wp2_with fail
                refine hcall.mono ?_
                rintro e W5 ⟨c, d3, heq, rfl, h5, hg5⟩
                obtain ⟨hperm, hsorted⟩ := partialInsertionSort_holds swo_ltInt d1 a' b' (by omega) (by rw [h.size]; exact hb') hB
                rw [heq] at hperm hsorted
                replace hB := Go.Sort.Below.perm hB (by rw [h.size]; exact hb') hperm
                replace hg := hg.trans hg5
                have HF0 := HF
                replace HF : Hid (∀ R, PermIn a' b' d3 R → SortedIn ltInt a' b' R → PermIn a b d R ∧ SortedIn ltInt a b R) := fun R q1 q2 => HF0.out R (permIn_trans _ _ _ _ _ hperm q1) q2
                clear HF0 hperm heq hcall hg5 h
                have h := h5
                clear h5
                cases c
                · clear hsorted
                  by_cases ha0 : 0 < a'
                  · have hda : decide ((0 : Int) < (a' : Int)) = true := decide_eq_true (by omega)
                    have hda' : decide (0 < a') = true := decide_eq_true ha0
                    have hq0 : (a' : Int) - 1 = ((a' - 1 : Nat) : Int) := by omega
                    have c0 := h.cell (j := a' - 1) (by omega)
                    have c1 := h.cell (j := p) (by omega)
                    have hx1 : ((a' - 1 : Nat) : Int) < (n : Int) := by omega
                    have hx2 : (p : Int) < (n : Int) := by omega
                    obtain ⟨X, hX⟩ : ∃ X, d3[a' - 1]! = X := ⟨_, rfl⟩
                    obtain ⟨Y, hY⟩ : ∃ Y, d3[p]! = Y := ⟨_, rfl⟩
                    rw [hX] at c0
                    rw [hY] at c1
                    have HX := (show Hid _ from hX)
                    have HY := (show Hid _ from hY)
                    clear hX hY
                    generalize a' - 1 = a1 at hq0 c0 hx1 HX
                    go_wp2_with fail
                    go_quiet (first | (go_at_call 189; refine Calls.quiet_of_same (Less_any _ _ _)))
                    replace hg := hg.trans (grown_dN _ nq (some g))
                    replace h := h.drewN nq
                    generalize World.drewN _ _ = W6 at h hg ⊢
                    cases hl : ltInt X Y
                    · have hl' : ltInt d3[a' - 1]! d3[p]! = false := by
                        have e1 : a1 = a' - 1 := by omega
                        rw [← e1, HX.out, HY.out]; exact hl
                      have hcall := partEq_any base g cap n a' b' p d3 _ h hp1 hp2 hb' hn
                      clear c0 c1
                      go_wp2_with fail
                      refine hcall.mono ?_
                      rintro e W7 ⟨mid, d4, heq, rfl, h4, hg4⟩
                      obtain ⟨r1, r2, rsz, rB, rF⟩ := round_eq swo_ltInt (partitionEqual_holds ltInt) ha0 hp1 hp2 (by rw [h.size]; exact hb') hB hl' heq
                      replace hg := hg.trans hg4
                      have HB1 := (show Hid _ from rB)
                      have HK2 : Hid (∀ R, PermIn mid b' d4 R → SortedIn ltInt mid b' R → PermIn a b d R ∧ SortedIn ltInt a b R) := fun R q1 q2 => HF.out R (rF R q1 q2).1 (rF R q1 q2).2
                      clear rB rF heq hcall hg4 h hB hl' HX HY
                      go_wp2
                      go_roundw
                      case rel => exact ⟨mid, b', lim, _, _, d4, rfl, rfl, rfl, rfl, rfl, by omega, by omega, by omega, by omega, h4, hg, HB1.out, HK2⟩
                      case measure => simp [intOf] <;> omega
                    · clear HX HY
                      have hcall := partition_any base g cap n a' b' p d3 _ h hp1 hp2 hb' hn
                      clear c0 c1
                      go_wp2_with fail
                      refine hcall.mono ?_
                      rintro e W7 ⟨mid, ap, d4, heq, rfl, h4, hg4⟩
                      obtain ⟨r1, r2, rsz, rB1, rB2, rL, rR⟩ := round_part swo_ltInt (partition_holds ltInt) hp1 hp2 (by rw [h.size]; exact hb') hB heq
                      replace hg := hg.trans hg4
                      have RL' := (show Hid _ from rL)
                      have RR' := (show Hid _ from rR)
                      have HB1 := (show Hid _ from rB1)
                      have HB2 := (show Hid _ from rB2)
                      clear rL rR rB1 rB2 heq hcall hg4 h hB
                      by_cases hord : mid - a' < b' - mid
                      · have hdo : decide ((mid : Int) - (a' : Int) < (b' : Int) - (mid : Int)) = true := decide_eq_true (by omega)
                        have hrec := ih (mid - a') (by omega) base g cap n a' mid lim d4 _ rfl h4 r1 (by omega) hn (by omega) HB1.out
                        have HREC := (show Hid _ from hrec)
                        clear hrec
                        go_wp2_with fail
                        refine Calls.mono HREC.out ?_
                        rintro e W8 ⟨rfl, d5, h5, hp5, hs5, hg5⟩
                        obtain ⟨k1, k2⟩ := RL'.out d5 hp5 hs5
                        have HK1 := (show Hid _ from k1)
                        have HK2 : Hid (∀ R, PermIn (mid + 1) b' d5 R → SortedIn ltInt (mid + 1) b' R → PermIn a b d R ∧ SortedIn ltInt a b R) := fun R q1 q2 => HF.out R (k2 R q1 q2).1 (k2 R q1 q2).2
                        replace hg := hg.trans hg5
                        clear HREC k1 k2 hp5 hs5 hg5 h4
                        go_wp2
                        go_roundw
                        case rel => exact ⟨mid + 1, b', lim, _, ap, d5, by go_num, rfl, rfl, rfl, rfl, by omega, by omega, by omega, by omega, h5, hg, HK1.out, HK2⟩
                        case measure => simp [intOf] <;> omega
                      · have hdo : decide ((mid : Int) - (a' : Int) < (b' : Int) - (mid : Int)) = false := decide_eq_false (by omega)
                        have hrec := ih (b' - (mid + 1)) (by omega) base g cap n (mid + 1) b' lim d4 _ rfl h4 (by omega) (by omega) hn (by omega) HB2.out
                        have hmq : ((mid + 1 : Nat) : Int) = (mid : Int) + 1 := by omega
                        rw [hmq] at hrec
                        have HREC := (show Hid _ from hrec)
                        clear hrec hmq
                        go_wp2_with fail
                        refine Calls.mono HREC.out ?_
                        rintro e W8 ⟨rfl, d5, h5, hp5, hs5, hg5⟩
                        obtain ⟨k1, k2⟩ := RR'.out d5 hp5 hs5
                        have HK1 := (show Hid _ from k1)
                        have HK2 : Hid (∀ R, PermIn a' mid d5 R → SortedIn ltInt a' mid R → PermIn a b d R ∧ SortedIn ltInt a b R) := fun R q1 q2 => HF.out R (k2 R q1 q2).1 (k2 R q1 q2).2
                        replace hg := hg.trans hg5
                        clear HREC k1 k2 hp5 hs5 hg5 h4
                        go_wp2
                        go_roundw
                        case rel => exact ⟨a', mid, lim, _, ap, d5, rfl, rfl, rfl, rfl, rfl, by omega, by omega, by omega, by omega, h5, hg, HK1.out, HK2⟩
                        case measure => simp [intOf] <;> omega
                  · have hda : decide ((0 : Int) < (a' : Int)) = false := decide_eq_false (by omega)
                    have hda' : decide (0 < a') = false := decide_eq_false ha0
                    have c0 := hda
                    have c1 := hda
                    go_wp2_with fail
                    go_quiet (fail)
                    replace hg := hg.trans (grown_dN _ nq (some g))
                    replace h := h.drewN nq
                    generalize World.drewN _ _ = W6 at h hg ⊢
                    have hcall := partition_any base g cap n a' b' p d3 _ h hp1 hp2 hb' hn
                    clear c0 c1
                    go_wp2_with fail
                    refine hcall.mono ?_
                    rintro e W7 ⟨mid, ap, d4, heq, rfl, h4, hg4⟩
                    obtain ⟨r1, r2, rsz, rB1, rB2, rL, rR⟩ := round_part swo_ltInt (partition_holds ltInt) hp1 hp2 (by rw [h.size]; exact hb') hB heq
                    replace hg := hg.trans hg4
                    have RL' := (show Hid _ from rL)
                    have RR' := (show Hid _ from rR)
                    have HB1 := (show Hid _ from rB1)
                    have HB2 := (show Hid _ from rB2)
                    clear rL rR rB1 rB2 heq hcall hg4 h hB
                    by_cases hord : mid - a' < b' - mid
                    · have hdo : decide ((mid : Int) - (a' : Int) < (b' : Int) - (mid : Int)) = true := decide_eq_true (by omega)
                      have hrec := ih (mid - a') (by omega) base g cap n a' mid lim d4 _ rfl h4 r1 (by omega) hn (by omega) HB1.out
                      have HREC := (show Hid _ from hrec)
                      clear hrec
                      go_wp2_with fail
                      refine Calls.mono HREC.out ?_
                      rintro e W8 ⟨rfl, d5, h5, hp5, hs5, hg5⟩
                      obtain ⟨k1, k2⟩ := RL'.out d5 hp5 hs5
                      have HK1 := (show Hid _ from k1)
                      have HK2 : Hid (∀ R, PermIn (mid + 1) b' d5 R → SortedIn ltInt (mid + 1) b' R → PermIn a b d R ∧ SortedIn ltInt a b R) := fun R q1 q2 => HF.out R (k2 R q1 q2).1 (k2 R q1 q2).2
                      replace hg := hg.trans hg5
                      clear HREC k1 k2 hp5 hs5 hg5 h4
                      go_wp2
                      go_roundw
                      case rel => exact ⟨mid + 1, b', lim, _, ap, d5, by go_num, rfl, rfl, rfl, rfl, by omega, by omega, by omega, by omega, h5, hg, HK1.out, HK2⟩
                      case measure => simp [intOf] <;> omega
                    · have hdo : decide ((mid : Int) - (a' : Int) < (b' : Int) - (mid : Int)) = false := decide_eq_false (by omega)
                      have hrec := ih (b' - (mid + 1)) (by omega) base g cap n (mid + 1) b' lim d4 _ rfl h4 (by omega) (by omega) hn (by omega) HB2.out
                      have hmq : ((mid + 1 : Nat) : Int) = (mid : Int) + 1 := by omega
                      rw [hmq] at hrec
                      have HREC := (show Hid _ from hrec)
                      clear hrec hmq
                      go_wp2_with fail
                      refine Calls.mono HREC.out ?_
                      rintro e W8 ⟨rfl, d5, h5, hp5, hs5, hg5⟩
                      obtain ⟨k1, k2⟩ := RR'.out d5 hp5 hs5
                      have HK1 := (show Hid _ from k1)
                      have HK2 : Hid (∀ R, PermIn a' mid d5 R → SortedIn ltInt a' mid R → PermIn a b d R ∧ SortedIn ltInt a b R) := fun R q1 q2 => HF.out R (k2 R q1 q2).1 (k2 R q1 q2).2
                      replace hg := hg.trans hg5
                      clear HREC k1 k2 hp5 hs5 hg5 h4
                      go_wp2
                      go_roundw
                      case rel => exact ⟨a', mid, lim, _, ap, d5, rfl, rfl, rfl, rfl, rfl, by omega, by omega, by omega, by omega, h5, hg, HK1.out, HK2⟩
                      case measure => simp [intOf] <;> omega
                · obtain ⟨f1, f2⟩ := HF.out d3 (permIn_refl _ _ _) (hsorted rfl)
                  clear hsorted
                  go_wp2
                  go_returns
                  exact ⟨rfl, d3, h, f1, f2, hg⟩
              · have hdt1 : (t == 1) = false := by rw [beq_eq_false_iff_ne]; exact ht1
                by_cases ha0 : 0 < a'
                · have hda : decide ((0 : Int) < (a' : Int)) = true := decide_eq_true (by omega)
                  have hda' : decide (0 < a') = true := decide_eq_true ha0
                  have hq0 : (a' : Int) - 1 = ((a' - 1 : Nat) : Int) := by omega
                  have c0 := h.cell (j := a' - 1) (by omega)
                  have c1 := h.cell (j := p) (by omega)
                  have hx1 : ((a' - 1 : Nat) : Int) < (n : Int) := by omega
                  have hx2 : (p : Int) < (n : Int) := by omega
                  obtain ⟨X, hX⟩ : ∃ X, d1[a' - 1]! = X := ⟨_, rfl⟩
                  obtain ⟨Y, hY⟩ : ∃ Y, d1[p]! = Y := ⟨_, rfl⟩
                  rw [hX] at c0
                  rw [hY] at c1
                  have HX := (show Hid _ from hX)
                  have HY := (show Hid _ from hY)
                  clear hX hY
                  generalize a' - 1 = a1 at hq0 c0 hx1 HX
                  go_wp2_with fail
                  go_quiet (first | (go_at_call 189; refine Calls.quiet_of_same (Less_any _ _ _)))
                  replace hg := hg.trans (grown_dN _ nq (some g))
                  replace h := h.drewN nq
                  generalize World.drewN _ _ = W6 at h hg ⊢
                  cases hl : ltInt X Y
                  · have hl' : ltInt d1[a' - 1]! d1[p]! = false := by
                      have e1 : a1 = a' - 1 := by omega
                      rw [← e1, HX.out, HY.out]; exact hl
                    have hcall := partEq_any base g cap n a' b' p d1 _ h hp1 hp2 hb' hn
                    clear c0 c1
                    go_wp2_with fail
                    refine hcall.mono ?_
                    rintro e W7 ⟨mid, d4, heq, rfl, h4, hg4⟩
                    obtain ⟨r1, r2, rsz, rB, rF⟩ := round_eq swo_ltInt (partitionEqual_holds ltInt) ha0 hp1 hp2 (by rw [h.size]; exact hb') hB hl' heq
                    replace hg := hg.trans hg4
                    have HB1 := (show Hid _ from rB)
                    have HK2 : Hid (∀ R, PermIn mid b' d4 R → SortedIn ltInt mid b' R → PermIn a b d R ∧ SortedIn ltInt a b R) := fun R q1 q2 => HF.out R (rF R q1 q2).1 (rF R q1 q2).2
                    clear rB rF heq hcall hg4 h hB hl' HX HY
                    go_wp2
                    go_roundw
                    case rel => exact ⟨mid, b', lim, _, _, d4, rfl, rfl, rfl, rfl, rfl, by omega, by omega, by omega, by omega, h4, hg, HB1.out, HK2⟩
                    case measure => simp [intOf] <;> omega
                  · clear HX HY
                    have hcall := partition_any base g cap n a' b' p d1 _ h hp1 hp2 hb' hn
                    clear c0 c1
                    go_wp2_with fail
                    refine hcall.mono ?_
                    rintro e W7 ⟨mid, ap, d4, heq, rfl, h4, hg4⟩
                    obtain ⟨r1, r2, rsz, rB1, rB2, rL, rR⟩ := round_part swo_ltInt (partition_holds ltInt) hp1 hp2 (by rw [h.size]; exact hb') hB heq
                    replace hg := hg.trans hg4
                    have RL' := (show Hid _ from rL)
                    have RR' := (show Hid _ from rR)
                    have HB1 := (show Hid _ from rB1)
                    have HB2 := (show Hid _ from rB2)
                    clear rL rR rB1 rB2 heq hcall hg4 h hB
                    by_cases hord : mid - a' < b' - mid
                    · have hdo : decide ((mid : Int) - (a' : Int) < (b' : Int) - (mid : Int)) = true := decide_eq_true (by omega)
                      have hrec := ih (mid - a') (by omega) base g cap n a' mid lim d4 _ rfl h4 r1 (by omega) hn (by omega) HB1.out
                      have HREC := (show Hid _ from hrec)
                      clear hrec
                      go_wp2_with fail
                      refine Calls.mono HREC.out ?_
                      rintro e W8 ⟨rfl, d5, h5, hp5, hs5, hg5⟩
                      obtain ⟨k1, k2⟩ := RL'.out d5 hp5 hs5
                      have HK1 := (show Hid _ from k1)
                      have HK2 : Hid (∀ R, PermIn (mid + 1) b' d5 R → SortedIn ltInt (mid + 1) b' R → PermIn a b d R ∧ SortedIn ltInt a b R) := fun R q1 q2 => HF.out R (k2 R q1 q2).1 (k2 R q1 q2).2
                      replace hg := hg.trans hg5
                      clear HREC k1 k2 hp5 hs5 hg5 h4
                      go_wp2
                      go_roundw
                      case rel => exact ⟨mid + 1, b', lim, _, ap, d5, by go_num, rfl, rfl, rfl, rfl, by omega, by omega, by omega, by omega, h5, hg, HK1.out, HK2⟩
                      case measure => simp [intOf] <;> omega
                    · have hdo : decide ((mid : Int) - (a' : Int) < (b' : Int) - (mid : Int)) = false := decide_eq_false (by omega)
                      have hrec := ih (b' - (mid + 1)) (by omega) base g cap n (mid + 1) b' lim d4 _ rfl h4 (by omega) (by omega) hn (by omega) HB2.out
                      have hmq : ((mid + 1 : Nat) : Int) = (mid : Int) + 1 := by omega
                      rw [hmq] at hrec
                      have HREC := (show Hid _ from hrec)
                      clear hrec hmq
                      go_wp2_with fail
                      refine Calls.mono HREC.out ?_
                      rintro e W8 ⟨rfl, d5, h5, hp5, hs5, hg5⟩
                      obtain ⟨k1, k2⟩ := RR'.out d5 hp5 hs5
                      have HK1 := (show Hid _ from k1)
                      have HK2 : Hid (∀ R, PermIn a' mid d5 R → SortedIn ltInt a' mid R → PermIn a b d R ∧ SortedIn ltInt a b R) := fun R q1 q2 => HF.out R (k2 R q1 q2).1 (k2 R q1 q2).2
                      replace hg := hg.trans hg5
                      clear HREC k1 k2 hp5 hs5 hg5 h4
                      go_wp2
                      go_roundw
                      case rel => exact ⟨a', mid, lim, _, ap, d5, rfl, rfl, rfl, rfl, rfl, by omega, by omega, by omega, by omega, h5, hg, HK1.out, HK2⟩
                      case measure => simp [intOf] <;> omega
                · have hda : decide ((0 : Int) < (a' : Int)) = false := decide_eq_false (by omega)
                  have hda' : decide (0 < a') = false := decide_eq_false ha0
                  have c0 := hda
                  have c1 := hda
                  go_wp2_with fail
                  go_quiet (fail)
                  replace hg := hg.trans (grown_dN _ nq (some g))
                  replace h := h.drewN nq
                  generalize World.drewN _ _ = W6 at h hg ⊢
                  have hcall := partition_any base g cap n a' b' p d1 _ h hp1 hp2 hb' hn
                  clear c0 c1
                  go_wp2_with fail
                  refine hcall.mono ?_
                  rintro e W7 ⟨mid, ap, d4, heq, rfl, h4, hg4⟩
                  obtain ⟨r1, r2, rsz, rB1, rB2, rL, rR⟩ := round_part swo_ltInt (partition_holds ltInt) hp1 hp2 (by rw [h.size]; exact hb') hB heq
                  replace hg := hg.trans hg4
                  have RL' := (show Hid _ from rL)
                  have RR' := (show Hid _ from rR)
                  have HB1 := (show Hid _ from rB1)
                  have HB2 := (show Hid _ from rB2)
                  clear rL rR rB1 rB2 heq hcall hg4 h hB
                  by_cases hord : mid - a' < b' - mid
                  · have hdo : decide ((mid : Int) - (a' : Int) < (b' : Int) - (mid : Int)) = true := decide_eq_true (by omega)
                    have hrec := ih (mid - a') (by omega) base g cap n a' mid lim d4 _ rfl h4 r1 (by omega) hn (by omega) HB1.out
                    have HREC := (show Hid _ from hrec)
                    clear hrec
                    go_wp2_with fail
                    refine Calls.mono HREC.out ?_
                    rintro e W8 ⟨rfl, d5, h5, hp5, hs5, hg5⟩
                    obtain ⟨k1, k2⟩ := RL'.out d5 hp5 hs5
                    have HK1 := (show Hid _ from k1)
                    have HK2 : Hid (∀ R, PermIn (mid + 1) b' d5 R → SortedIn ltInt (mid + 1) b' R → PermIn a b d R ∧ SortedIn ltInt a b R) := fun R q1 q2 => HF.out R (k2 R q1 q2).1 (k2 R q1 q2).2
                    replace hg := hg.trans hg5
                    clear HREC k1 k2 hp5 hs5 hg5 h4
                    go_wp2
                    go_roundw
                    case rel => exact ⟨mid + 1, b', lim, _, ap, d5, by go_num, rfl, rfl, rfl, rfl, by omega, by omega, by omega, by omega, h5, hg, HK1.out, HK2⟩
                    case measure => simp [intOf] <;> omega
                  · have hdo : decide ((mid : Int) - (a' : Int) < (b' : Int) - (mid : Int)) = false := decide_eq_false (by omega)
                    have hrec := ih (b' - (mid + 1)) (by omega) base g cap n (mid + 1) b' lim d4 _ rfl h4 (by omega) (by omega) hn (by omega) HB2.out
                    have hmq : ((mid + 1 : Nat) : Int) = (mid : Int) + 1 := by omega
                    rw [hmq] at hrec
                    have HREC := (show Hid _ from hrec)
                    clear hrec hmq
                    go_wp2_with fail
                    refine Calls.mono HREC.out ?_
                    rintro e W8 ⟨rfl, d5, h5, hp5, hs5, hg5⟩
                    obtain ⟨k1, k2⟩ := RR'.out d5 hp5 hs5
                    have HK1 := (show Hid _ from k1)
                    have HK2 : Hid (∀ R, PermIn a' mid d5 R → SortedIn ltInt a' mid R → PermIn a b d R ∧ SortedIn ltInt a b R) := fun R q1 q2 => HF.out R (k2 R q1 q2).1 (k2 R q1 q2).2
                    replace hg := hg.trans hg5
                    clear HREC k1 k2 hp5 hs5 hg5 h4
                    go_wp2
                    go_roundw
                    case rel => exact ⟨a', mid, lim, _, ap, d5, rfl, rfl, rfl, rfl, rfl, by omega, by omega, by omega, by omega, h5, hg, HK1.out, HK2⟩
                    case measure => simp [intOf] <;> omega
end Go.Proofs.YtakaadcpaeiccabGreat
