import Derived.Test.YtakaadcpaeiccabGreatC09
import Derived.Test.YtakaadcpaeiccabGreatC08
namespace Go.Proofs.YtakaadcpaeiccabGreat
open Go.RowKit Go.Maps

def befF (n : Int) (y : Rt) : Rt := if y.valid = true ∧ y.bef.length < 4 ∧ n ∉ y.bef then { y with bef := insU n y.bef } else y
def befL (A : List Rt) (d n : Int) : List Rt := modL A d (befF n)
theorem befF_dest (n : Int) (y : Rt) : (befF n y).dest = y.dest := by
  unfold befF
  split <;> rfl
theorem insU_length (a : Int) (l : List Int) (h : a ∉ l) : (insU a l).length = l.length + 1 := by
  induction l with
  | nil => rfl
  | cons x l ih =>
    unfold insU
    rw [if_neg (fun e => h (by simp [e]))]
    split
    · rfl
    · simp [ih (fun e => h (by simp [e]))]

set_option maxRecDepth 100000 in
set_option maxHeartbeats 2000000 in
theorem Before_nil (T : Nat) (d n : Int) (w : World) (hv : Calls Tryz.prog 116 #[.pointer (some ⟨T, 0, none⟩), .int .u32 d] w fun e w' => e = .returned (.pointer none) ∧ w' = w) :
    Calls Tryz.prog 182 #[.pointer (some ⟨T, 0, none⟩), .int .u32 d, .int .u32 n] w fun e w' => e = .returned (.tuple #[]) ∧ w' = w := by
  have HV := (show Hid _ from hv)
  clear hv
  go_enter Tryz.func182, Tryz.ntmps182
  go_wp2_with fail
  refine Calls.mono HV.out ?_
  rintro e w1 ⟨rfl, rfl⟩
  clear HV
  go_wp2
  go_returns
  exact ⟨rfl, rfl⟩
set_option maxRecDepth 100000 in
set_option maxHeartbeats 2000000 in
theorem Before_line (T : Nat) (d n : Int) (B : Nat) (x : Rt) (v : Value) (hx : x.bef.Pairwise (· < ·)) (hx4 : x.bef.length ≤ 4) (w : World) (hv : Calls Tryz.prog 116 #[.pointer (some ⟨T, 0, none⟩), .int .u32 d] w fun e w' => e = .returned (.pointer (some ⟨B, 0, none⟩)) ∧ w' = w) (h : LnB B x v w) (hr : w.ownsRow 0 34 1 v x.bef.length (x.bef.map encU)) :
    Calls Tryz.prog 182 #[.pointer (some ⟨T, 0, none⟩), .int .u32 d, .int .u32 n] w fun e w' => e = .returned (.tuple #[]) ∧
      ((¬ (x.bef.length < 4 ∧ n ∉ x.bef) ∧ w' = w) ∨ ((x.bef.length < 4 ∧ n ∉ x.bef) ∧ ∃ v', LnB B { x with bef := insU n x.bef } v' w' ∧ w'.ownsRow 0 34 1 v' (insU n x.bef).length ((insU n x.bef).map encU) ∧
        (v'.ownBlock = v.ownBlock ∨ ∀ k, v'.ownBlock = some k → w.heap.size ≤ k) ∧ w.heap.size ≤ w'.heap.size ∧ w'.os = w.os ∧ w'.tape = w.tape ∧ w'.output = w.output ∧ ∀ k, k < w.heap.size → k ≠ B → v.ownBlock ≠ some k → w'.heap[k]? = w.heap[k]?)) := by
  have hrB : v.ownBlock ≠ some B := row_not hr h (fun c e => by cases e)
  obtain ⟨ao, c, rfl, _⟩ := row_form hr
  obtain ⟨c0, c1, c2, c3, c4, c5, c6⟩ := h.cell
  have HV := (show Hid _ from hv)
  clear hv
  by_cases h4 : x.bef.length < 4
  · have hd4 : decide (4 ≤ (x.bef.length : Int)) = false := decide_eq_false (by omega)
    have hd4' : decide (4 ≤ x.bef.length) = false := decide_eq_false (by omega)
    go_enter Tryz.func182, Tryz.ntmps182
    go_wp2_with fail
    refine Calls.mono HV.out ?_
    rintro e w1 ⟨rfl, rfl⟩
    clear HV
    go_wp2_with fail
    refine (Search_any _ x.bef.length x.bef n _ hr hx (by omega)).mono ?_
    rintro e w2 ⟨i, hi, hlo, hhi, rfl, rfl⟩
    have hiff : (x.bef[i]? == some n) = decide (n ∈ x.bef) := by
      by_cases hm : n ∈ x.bef
      · obtain ⟨k, hk⟩ := List.getElem?_of_mem hm
        have hkl := (List.getElem?_eq_some_iff.1 hk).1
        have : k = i := by
          rcases Nat.lt_trichotomy k i with h | h | h
          · have := hlo k n h hk; omega
          · exact h
          · obtain ⟨y, hy⟩ : ∃ y, x.bef[i]? = some y := ⟨_, List.getElem?_eq_getElem (by omega)⟩
            have h1 := hhi i y (Nat.le_refl _) hy
            obtain ⟨hk', rfl⟩ := List.getElem?_eq_some_iff.1 hk
            obtain ⟨hi', rfl⟩ := List.getElem?_eq_some_iff.1 hy
            have := List.pairwise_iff_getElem.1 hx i k hi' hk' h
            omega
        subst this
        rw [hk]
        simp [hm]
      · rw [decide_eq_false hm]
        cases hy : x.bef[i]? with
        | none => rfl
        | some y =>
          have : y ≠ n := fun e => hm (by rw [← e]; exact List.mem_of_getElem? hy)
          simpa using this
    rw [hiff]
    by_cases hm : n ∈ x.bef
    · have hdm : decide (n ∈ x.bef) = true := decide_eq_true hm
      rw [hdm]
      go_wp2
      go_returns
      exact ⟨rfl, .inl ⟨fun h => h.2 hm, rfl⟩⟩
    · have hdm : decide (n ∈ x.bef) = false := decide_eq_false hm
      rw [hdm]
      have hb1 : Below w2.heap.size w2 (w2.alloc (.cells #[.int .u32 n] 34)) := (Below.refl _ _).alloc (Nat.le_refl _) _
      have hN := heap_alloc_new w2 (.cells #[.int .u32 n] 34)
      have hr1 := step_append_kept hr hb1
      have hL1 := h.later hb1
      have hlt := hr.lt
      have hins := insU_at hlo (fun j y hj hy => by have := hhi j y hj hy; omega) hi hm
      have hlen := insU_length n x.bef hm
      have hP := (show Hid _ from hins)
      have hP2 := (show Hid _ from hlen)
      clear hins hlen hlo hhi hiff hdm c0 c1 c2 c3 c4 c5
      go_wp2_with fail
      clear c6
      generalize World.alloc _ _ = W1 at hb1 hN hr1 hL1 ⊢
      refine (Insert_any _ x.bef.length i x.bef n w2.heap.size _ hr1 hi hN (fun e => by have := (hlt _ e).2; omega) (by omega)).mono ?_
      rintro e W2 ⟨v', rfl, ho2, hg2, hvb⟩
      obtain ⟨ao2, c2', rfl, _⟩ := row_form ho2
      have hL2 := hL1.block (hg2.block B hL1.lt (fun e => hrB e.symm))
      have hL3 := hL2.set6 (.slice ao2 (x.bef.length + 1) c2') (insU n x.bef)
      have hg3 : W2.grownBy (W2.setCell ⟨B, 6, none⟩ (.slice ao2 (x.bef.length + 1) c2')) (some B) := grown_cellOf (grown_self _ _) 6 _
      have hB2 := row_not ho2 hL2 (fun c e => by cases e)
      have ho3 := ho2.kept hg3 (.inr hB2)
      have f6 := hL2.free 6
      obtain ⟨_, _, _, _, _, _, c6⟩ := hL2.cell
      have hsz := Nat.le_trans hb1.size hg2.size
      have hfr : Hid (∀ k, k < w2.heap.size → k ≠ B → (Value.slice ao x.bef.length c).ownBlock ≠ some k → (W2.setCell ⟨B, 6, none⟩ (.slice ao2 (x.bef.length + 1) c2')).heap[k]? = w2.heap[k]?) := fun k hk hkB hkv =>
        (hg3.block k (Nat.lt_of_lt_of_le hk hsz) (fun e => hkB (by cases e; rfl))).trans ((hg2.block k (Nat.lt_of_lt_of_le hk hb1.size) (fun e => hkv e.symm)).trans (hb1.block k hk))
      have hos : (W2.setCell ⟨B, 6, none⟩ (.slice ao2 (x.bef.length + 1) c2')).os = w2.os := hg3.os.trans (hg2.os.trans hb1.os)
      have htp : (W2.setCell ⟨B, 6, none⟩ (.slice ao2 (x.bef.length + 1) c2')).tape = w2.tape := hg3.tape.trans (hg2.tape.trans hb1.tape)
      have hou : (W2.setCell ⟨B, 6, none⟩ (.slice ao2 (x.bef.length + 1) c2')).output = w2.output := hg3.output.trans (hg2.output.trans hb1.output)
      have hsz3 : w2.heap.size ≤ (W2.setCell ⟨B, 6, none⟩ (.slice ao2 (x.bef.length + 1) c2')).heap.size := Nat.le_trans hsz hg3.size
      have hvb' : (Value.slice ao2 (x.bef.length + 1) c2').ownBlock = (Value.slice ao x.bef.length c).ownBlock ∨ ∀ k, (Value.slice ao2 (x.bef.length + 1) c2').ownBlock = some k → w2.heap.size ≤ k := by
        rcases hvb with e | e
        · exact .inl e
        · exact .inr (fun k hk => Nat.le_trans hb1.size (e k hk))
      rw [hP.out] at ho3
      clear hL1 hr1 hN hb1 ho2 hg2 hL2 hg3 hB2 hvb hsz
      go_wp2
      generalize World.setCell _ _ _ = W3 at hL3 ho3 hfr hos htp hou hsz3 ⊢
      go_returns
      exact ⟨rfl, .inr ⟨⟨h4, hm⟩, _, hL3, by rw [hP2.out]; exact ho3, hvb', hsz3, hos, htp, hou, hfr.out⟩⟩
  · have hd4 : decide (4 ≤ (x.bef.length : Int)) = true := decide_eq_true (by omega)
    have hd4' : decide (4 ≤ x.bef.length) = true := decide_eq_true (by omega)
    go_enter Tryz.func182, Tryz.ntmps182
    go_wp2_with fail
    refine Calls.mono HV.out ?_
    rintro e w1 ⟨rfl, rfl⟩
    clear HV
    go_wp2
    go_returns
    exact ⟨rfl, .inl ⟨fun h => h4 h.1, rfl⟩⟩
theorem Before_any (me : Int) (T : Nat) (S : Nat → Prop) (A : List Rt) (d n : Int) (hd : U32 d) (hn : U32 n) (w : World) (h : Tab me T S A w) :
    Calls Tryz.prog 182 #[.pointer (some ⟨T, 0, none⟩), .int .u32 d, .int .u32 n] w fun e w' => e = .returned (.tuple #[]) ∧ Tab me T (ext S w.heap.size w'.heap.size) (befL A d n) w' ∧ Fx S w w' := by
  obtain ⟨M, f, g, hM, hS⟩ := h
  have hold : Tab me T (ext S w.heap.size w.heap.size) A w ∧ Fx S w w := ⟨⟨M, f, g, hM, fun k hk => .inl (hS k hk)⟩, Fx.refl _ _⟩
  have hv := valid_any hM hd
  unfold validP at hv
  cases hl : lineOf A d with
  | none =>
    rw [hl] at hv
    refine (Before_nil T d n w hv).mono ?_
    rintro e w' ⟨rfl, rfl⟩
    have h2 : befL A d n = A := by unfold befL; rw [modL_none hl]
    rw [h2]
    exact ⟨rfl, hold⟩
  | some x =>
    rw [hl] at hv
    obtain ⟨hx, hxd, B, hB, hL, hR⟩ := hM.line hl
    rw [hB] at hv
    have hok := hM.ok x hx
    have hsame : ¬ (x.valid = true ∧ x.bef.length < 4 ∧ n ∉ x.bef) → befL A d n = A := fun hc => modL_id hM.asc fun y hy => by
      rw [hl] at hy
      cases hy
      unfold befF
      rw [if_neg hc]
    cases hxv : x.valid with
    | false =>
      simp only [hxv] at hv
      refine (Before_nil T d n w hv).mono ?_
      rintro e w' ⟨rfl, rfl⟩
      rw [hsame (fun h => by rw [hxv] at h; cases h.1)]
      exact ⟨rfl, hold⟩
    | true =>
      simp only [hxv, if_true, Option.map_some] at hv
      refine (Before_line T d n B x (g d) hok.asc hok.befs w hv hL hR).mono ?_
      rintro e w' ⟨rfl, ⟨hc, rfl⟩ | ⟨hc, v', hL', ho', hvb, hsz, hos, htp, hou, hfr⟩⟩
      · rw [hsame (fun h => hc h.2)]
        exact ⟨rfl, hold⟩
      · have hF : befF n x = { x with bef := insU n x.bef } := if_pos ⟨hxv, hc⟩
        have ht := hM.turn (W' := w') hl hB (befF n) (befF_dest n) (by
          rw [hF]
          refine ⟨hok.dest, hok.seq, hok.hops, hok.next, hok.exp, ?_, ?_, insU_lt n x.bef hok.asc⟩
          · have := insU_length n x.bef hc.2
            dsimp only
            omega
          · intro b hb
            rcases (mem_insU n x.bef b).1 hb with rfl | hb
            · exact hn
            · exact hok.bef b hb) v' (by rw [hF]; exact hL') (by rw [hF]; exact ho') (by rcases hvb with e | e; exact .inr (.inl e); exact .inr (.inr e)) (fun k hk hkB hkv => hfr k (hM.lt hk) hkB hkv)
        refine ⟨rfl, ⟨M, f, _, ht.1, fun k hk => ?_⟩, ⟨hos, htp, hou, hsz, fun k hk hkS => hfr k hk (fun e => hkS (by rw [e]; exact hS _ (hM.inB hl hB))) (fun e => hkS (hS k (.inr (.inr ⟨x, hx, .inr (by rw [hxd]; exact e)⟩))))⟩⟩
        rcases ht.2 k hk with h1 | h1
        · exact .inl (hS k h1)
        · rcases hvb with e | e
          · exact .inl (hS k (.inr (.inr ⟨x, hx, .inr (by rw [hxd, ← e]; exact h1)⟩)))
          · exact .inr ⟨e k h1, (ho'.lt k h1).2⟩
end Go.Proofs.YtakaadcpaeiccabGreat

namespace Go.Proofs.YtakaadcpaeiccabGreat
open Go.RowKit Go.Sort

theorem uInner_go (a j : Nat) (d : Array Int) (hj : a < j) (hl : ltInt d[j]! d[j - 1]! = true) : insInner ltInt a j d = insInner ltInt a (j - 1) (swp d j (j - 1)) := by
  match j, hj with
  | k + 1, hj =>
    rw [insInner]
    simp only [Nat.add_sub_cancel] at hl ⊢
    rw [if_pos]
    simp [hj, hl]
theorem uInner_stop (a j : Nat) (d : Array Int) (h : j ≤ a ∨ ltInt d[j]! d[j - 1]! = false) : insInner ltInt a j d = d := by
  match j with
  | 0 => rw [insInner]
  | k + 1 =>
    rw [insInner]
    simp only [Nat.add_sub_cancel] at h
    rw [if_neg]
    rcases h with h | h
    · simp; omega
    · simp [h]
theorem uOuter_go (a b i : Nat) (d : Array Int) (h : i < b) : insOuter ltInt a b i d = insOuter ltInt a b (i + 1) (insInner ltInt a i d) := by rw [insOuter, if_pos h]
theorem uOuter_stop (a b i : Nat) (d : Array Int) (h : ¬ i < b) : insOuter ltInt a b i d = d := by rw [insOuter, if_neg h]

set_option maxRecDepth 100000 in
set_option maxHeartbeats 4000000 in
theorem insertion_any (base g cap n a b : Nat) (d : Array Int) (w : World) (h : SR base g cap n d w) (hab : a ≤ b) (hb : b ≤ n) (hn : n ≤ 1000000) :
    Calls Tryz.prog 183 #[.slice (some ⟨g, 0, none⟩) n cap, .int .i64 a, .int .i64 b] w fun e w' => e = .returned (.tuple #[]) ∧ SR base g cap n (insertionSort ltInt d a b) w' ∧ w.grownBy w' (some g) := by
  go_enter Tryz.func183, Tryz.ntmps183
  go_wp2_with fail
  go_loopw [6] (fun vi wr => ∃ (i : Nat) (dk : Array Int), vi = .int .i64 i ∧ a < i ∧ i ≤ b + 1 ∧ SR base g cap n dk wr ∧ w.grownBy wr (some g) ∧ insOuter ltInt a b i dk = insertionSort ltInt d a b) (fun vi _ => b + 1 - (intOf vi).toNat)
  case atStart => exact ⟨a + 1, d, by go_num, by omega, by omega, h, grn_rfl _ _, rfl⟩
  case round =>
    clear h
    obtain ⟨i, dk, rfl, hai, hib, h, hg, hO⟩ := hrel
    have HO := (show Hid _ from hO)
    clear hO
    by_cases hlt : i < b
    · have hix : (i : Int) < (b : Int) := by omega
      go_wp2_with fail
      go_loopw [7] (fun vj wr2 => ∃ (j : Nat) (dj : Array Int), vj = .int .i64 j ∧ a ≤ j ∧ j ≤ i ∧ SR base g cap n dj wr2 ∧ w.grownBy wr2 (some g) ∧ insInner ltInt a j dj = insInner ltInt a i dk) (fun vj _ => (intOf vj).toNat)
      case atStart => exact ⟨i, dk, rfl, by omega, Nat.le_refl _, h, hg, rfl⟩
      case round =>
        clear h hg
        obtain ⟨j, dj, rfl, haj, hji, h, hg, hI⟩ := hrel
        have hjn : (j : Int) < (n : Int) := by omega
        have hj1n : (j : Int) - 1 < (n : Int) := by omega
        by_cases hja : a < j
        · have hjp : (1 : Int) ≤ (j : Int) := by omega
          have c0 := h.cell (j := j) (by omega)
          have c1 := h.cell (j := j - 1) (by omega)
          have f0 := h.free j
          have f1 := h.free (j - 1)
          have hq : (j : Int) - 1 = ((j - 1 : Nat) : Int) := by omega
          have hs := h.swap j (j - 1)
          have hgs := fun u v => grown_swap wr g j (j - 1) u v
          have hgo := uInner_go a j dj hja
          have hst := uInner_stop a j dj
          generalize hX : dj[j]! = X at c0 hs hgo hst
          generalize hY : dj[j - 1]! = Y at c1 hs hgo hst
          have hJn : ((j - 1 : Nat) : Int) < (n : Int) := by omega
          have hj0 : (0 : Int) ≤ (j : Int) - 1 := by omega
          generalize hJ : j - 1 = J at c1 f1 hq hs hgs hgo hst hJn
          have HJ := (show Hid _ from hJ)
          have HI := (show Hid _ from hI)
          have HS := (show Hid _ from hst)
          clear hJ hI hst
          have hdj : decide (a < j) = true := decide_eq_true hja
          go_wp2_with fail
          go_quiet (first | (go_at_call 189; refine Calls.quiet_of_same (Less_any _ _ _)))
          cases hl : ltInt X Y
          · go_wp2
            go_roundw
            case rel => exact ⟨i + 1, dj, by go_num, by omega, by omega, h.drewN _, hg.trans (grown_dN _ _ _), by rw [← HO.out, uOuter_go _ _ _ _ hlt, ← HI.out, HS.out (.inr hl)]⟩
            case measure => simp [intOf]; omega
          · have hs' := (h.drewN (nq + 1)).swap j J
            have hg' := hg.trans ((grown_dN wr (nq + 1) (some g)).trans (grown_swap _ g j J (.int .u32 dj[J]!) (.int .u32 dj[j]!)))
            rw [hX, ← HJ.out, hY, HJ.out] at hs' hg'
            have hJj : J + 1 = j := by have := HJ.out; omega
            clear hX hY
            go_wp2_with fail
            go_region
            all_goals go_wp2
            go_roundw
            case rel => exact ⟨J, swp dj j J, rfl, by omega, by omega, hs', hg', by rw [← HI.out, hgo hl]⟩
            case measure => simp [intOf]; omega
        · have hdj : decide (a < j) = false := decide_eq_false hja
          have hst := uInner_stop a j dj (.inl (by omega))
          go_wp2_with fail
          go_quiet (fail)
          go_wp2
          go_roundw
          case rel => exact ⟨i + 1, dj, by go_num, by omega, by omega, h.drewN _, hg.trans (grown_dN _ _ _), by rw [← HO.out, uOuter_go _ _ _ _ hlt, ← hI, hst]⟩
          case measure => simp [intOf]; omega
    · have hend : insOuter ltInt a b i dk = dk := uOuter_stop a b i dk hlt
      rw [HO.out] at hend
      rw [← hend] at h
      go_wp2
      go_returns
      exact ⟨rfl, h, hg⟩
end Go.Proofs.YtakaadcpaeiccabGreat

namespace Go.Proofs.YtakaadcpaeiccabGreat
open Go.RowKit Go.Sort

theorem uDown_end (hi first root : Nat) (d : Array Int) (h : ¬ 2 * root + 1 < hi) : siftDown ltInt hi first root d = d := by
  rw [siftDown, dif_pos (by omega)]
/-- The greater of the two below. -/
def chd (hi first root : Nat) (d : Array Int) : Nat := if 2 * root + 1 + 1 < hi ∧ ltInt d[first + (2 * root + 1)]! d[first + (2 * root + 1) + 1]! = true then 2 * root + 2 else 2 * root + 1
theorem chd_b (hi first root : Nat) (d : Array Int) (h : 2 * root + 1 < hi) : root < chd hi first root d ∧ chd hi first root d < hi := by
  unfold chd
  split <;> omega
theorem uDown_go (hi first root : Nat) (d : Array Int) (h : 2 * root + 1 < hi) :
    siftDown ltInt hi first root d = if ltInt d[first + root]! d[first + chd hi first root d]! = true then siftDown ltInt hi first (chd hi first root d) (swp d (first + root) (first + chd hi first root d)) else d := by
  rw [siftDown, dif_neg (by omega)]
  unfold chd
  by_cases h1 : 2 * root + 1 + 1 < hi ∧ ltInt d[first + (2 * root + 1)]! d[first + (2 * root + 1) + 1]! = true
  · rw [if_pos h1, if_pos (by simp [h1.1, h1.2])]
    cases h2 : ltInt d[first + root]! d[first + (2 * root + 2)]!
    · simp
    · simp only [Bool.not_true, Bool.false_eq_true, if_false, if_true]
      rw [dif_pos (by omega)]
  · rw [if_neg h1, if_neg (by simpa using h1)]
    cases h2 : ltInt d[first + root]! d[first + (2 * root + 1)]! <;> simp

set_option maxRecDepth 100000 in
set_option maxHeartbeats 4000000 in
theorem siftDown_any (base g cap n lo hi first : Nat) (d : Array Int) (w : World) (h : SR base g cap n d w) (hb : first + hi ≤ n) (hlo : lo ≤ n) (hn : n ≤ 1000000) :
    Calls Tryz.prog 199 #[.slice (some ⟨g, 0, none⟩) n cap, .int .i64 lo, .int .i64 hi, .int .i64 first] w fun e w' => e = .returned (.tuple #[]) ∧ SR base g cap n (siftDown ltInt hi first lo d) w' ∧ w.grownBy w' (some g) := by
  go_enter Tryz.func199, Tryz.ntmps199
  go_wp2_with fail
  go_loopw [8] (fun vr wr => ∃ (r : Nat) (dk : Array Int), vr = .int .i64 r ∧ r ≤ n ∧ SR base g cap n dk wr ∧ w.grownBy wr (some g) ∧ siftDown ltInt hi first r dk = siftDown ltInt hi first lo d) (fun vr _ => 2 * n - (intOf vr).toNat)
  case atStart => exact ⟨lo, d, rfl, hlo, h, grn_rfl _ _, rfl⟩
  case round =>
    clear h
    obtain ⟨r, dk, rfl, hr, h, hg, hO⟩ := hrel
    have HO := (show Hid _ from hO)
    clear hO
    by_cases hlt : 2 * r + 1 < hi
    · have hgo := uDown_go hi first r dk hlt
      obtain ⟨hc1, hc2⟩ := chd_b hi first r dk hlt
      have hd1 : decide ((hi : Int) ≤ 2 * (r : Int) + 1) = false := decide_eq_false (by omega)
      obtain ⟨C0, hC0⟩ : ∃ C0, C0 = 2 * r + 1 := ⟨_, rfl⟩
      have hq : 2 * (r : Int) + 1 = (C0 : Int) := by omega
      have hC1 : C0 < hi := by omega
      have hC2 : r < C0 := by omega
      rw [hq] at hd1
      have hcd : chd hi first r dk = if C0 + 1 < hi ∧ ltInt dk[first + C0]! dk[first + C0 + 1]! = true then C0 + 1 else C0 := by
        unfold chd
        subst hC0
        rfl
      clear hC0
      have cA := h.cell (j := first + C0) (by omega)
      have hfA : (first : Int) + (C0 : Int) < (n : Int) := by omega
      by_cases h2 : C0 + 1 < hi
      · have hd2 : decide ((C0 : Int) + 1 < (hi : Int)) = true := decide_eq_true (by omega)
        have hd2' : decide (C0 + 1 < hi) = true := decide_eq_true h2
        have cB := h.cell (j := first + C0 + 1) (by omega)
        have hfB : (first : Int) + (C0 : Int) + 1 < (n : Int) := by omega
        generalize dk[first + C0]! = P at cA hcd
        generalize dk[first + C0 + 1]! = Q at cB hcd
        have HCD := (show Hid _ from hcd)
        have HGO0 := (show Hid _ from hgo)
        clear hcd hgo
        go_wp2_with fail
        go_quiet (first | (go_at_call 189; refine Calls.quiet_of_same (Less_any _ _ _)))
        have hcd := HCD.out
        have hgo := HGO0.out
        cases hlt1 : ltInt P Q
        · have hchd : chd hi first r dk = C0 := by rw [hcd, if_neg (by simp [hlt1])]
          clear hcd HCD HGO0
          rw [hchd] at hc1 hc2
          have h1 := h.drewN nq
          have hg1 := hg.trans (grown_dN wr nq (some g))
          generalize wr.drewN nq = W1 at h1 hg1 ⊢
          clear h hg cA cB
          have cR := h1.cell (j := first + r) (by omega)
          have cC := h1.cell (j := first + C0) (by omega)
          have fR := h1.free (first + r)
          have fC := h1.free (first + C0)
          rw [hchd] at hgo
          have hs' := fun q => (h1.drewN q).swap (first + r) (first + C0)
          have hg' := fun q => hg1.trans ((grown_dN W1 q (some g)).trans (grown_swap _ g (first + r) (first + C0) (.int .u32 dk[first + C0]!) (.int .u32 dk[first + r]!)))
          generalize dk[first + r]! = X at cR hgo hs' hg'
          generalize dk[first + C0]! = Y at cC hgo hs' hg'
          have hfr : (first : Int) + (r : Int) < (n : Int) := by omega
          have hfc : (first : Int) + (C0 : Int) < (n : Int) := by omega
          have HGO := (show Hid _ from hgo)
          clear hgo hchd
          go_wp2_with fail
          go_quiet (first | (go_at_call 189; refine Calls.quiet_of_same (Less_any _ _ _)))
          cases hl : ltInt X Y
          · have hend := HGO.out
            rw [hl] at hend
            simp only [Bool.false_eq_true, if_false] at hend
            rw [HO.out] at hend
            rw [← hend] at h1
            go_wp2
            go_returns
            exact ⟨rfl, h1.drewN _, hg1.trans (grown_dN _ _ _)⟩
          · have hend := HGO.out
            rw [hl, HO.out] at hend
            simp only [if_true] at hend
            replace hs' := hs' (nq + 1)
            replace hg' := hg' (nq + 1)
            go_wp2_with fail
            go_region
            all_goals go_wp2
            go_roundw
            case rel => exact ⟨C0, swp dk (first + r) (first + C0), by first | rfl | (congr 1; omega), by omega, hs', hg', hend.symm⟩
            case measure => simp [intOf]; omega
        · have hchd : chd hi first r dk = C0 + 1 := by rw [hcd, if_pos ⟨h2, hlt1⟩]
          clear hcd HCD HGO0
          obtain ⟨c, hc⟩ : ∃ c, c = C0 + 1 := ⟨_, rfl⟩
          have hcc : (C0 : Int) + 1 = (c : Int) := by omega
          rw [← hc] at hchd
          rw [hchd] at hc1 hc2
          have hc3 : c < hi := by omega
          clear hc
          have h1 := h.drewN nq
          have hg1 := hg.trans (grown_dN wr nq (some g))
          generalize wr.drewN nq = W1 at h1 hg1 ⊢
          clear h hg cA cB
          have cR := h1.cell (j := first + r) (by omega)
          have cC := h1.cell (j := first + c) (by omega)
          have fR := h1.free (first + r)
          have fC := h1.free (first + c)
          rw [hchd] at hgo
          have hs' := fun q => (h1.drewN q).swap (first + r) (first + c)
          have hg' := fun q => hg1.trans ((grown_dN W1 q (some g)).trans (grown_swap _ g (first + r) (first + c) (.int .u32 dk[first + c]!) (.int .u32 dk[first + r]!)))
          generalize dk[first + r]! = X at cR hgo hs' hg'
          generalize dk[first + c]! = Y at cC hgo hs' hg'
          have hfr : (first : Int) + (r : Int) < (n : Int) := by omega
          have hfc : (first : Int) + (c : Int) < (n : Int) := by omega
          have HGO := (show Hid _ from hgo)
          clear hgo hchd
          go_wp2_with fail
          go_quiet (first | (go_at_call 189; refine Calls.quiet_of_same (Less_any _ _ _)))
          cases hl : ltInt X Y
          · have hend := HGO.out
            rw [hl] at hend
            simp only [Bool.false_eq_true, if_false] at hend
            rw [HO.out] at hend
            rw [← hend] at h1
            go_wp2
            go_returns
            exact ⟨rfl, h1.drewN _, hg1.trans (grown_dN _ _ _)⟩
          · have hend := HGO.out
            rw [hl, HO.out] at hend
            simp only [if_true] at hend
            replace hs' := hs' (nq + 1)
            replace hg' := hg' (nq + 1)
            go_wp2_with fail
            go_region
            all_goals go_wp2
            go_roundw
            case rel => exact ⟨c, swp dk (first + r) (first + c), by first | rfl | (congr 1; omega), by omega, hs', hg', hend.symm⟩
            case measure => simp [intOf]; omega
      · have hd2 : decide ((C0 : Int) + 1 < (hi : Int)) = false := decide_eq_false (by omega)
        have hd2' : decide (C0 + 1 < hi) = false := decide_eq_false h2
        have cB := cA
        have hchd : chd hi first r dk = C0 := by rw [hcd, if_neg (fun e => h2 e.1)]
        have HGO0 := (show Hid _ from hgo)
        have HCH := (show Hid _ from hchd)
        clear hcd hgo hchd
        go_wp2_with fail
        go_quiet (first | (go_at_call 189; refine Calls.quiet_of_same (Less_any _ _ _)))
        have hgo := HGO0.out
        have hchd := HCH.out
        clear HGO0 HCH
        rw [hchd] at hc1 hc2
        have h1 := h.drewN nq
        have hg1 := hg.trans (grown_dN wr nq (some g))
        generalize wr.drewN nq = W1 at h1 hg1 ⊢
        clear h hg cA cB
        have cR := h1.cell (j := first + r) (by omega)
        have cC := h1.cell (j := first + C0) (by omega)
        have fR := h1.free (first + r)
        have fC := h1.free (first + C0)
        rw [hchd] at hgo
        have hs' := fun q => (h1.drewN q).swap (first + r) (first + C0)
        have hg' := fun q => hg1.trans ((grown_dN W1 q (some g)).trans (grown_swap _ g (first + r) (first + C0) (.int .u32 dk[first + C0]!) (.int .u32 dk[first + r]!)))
        generalize dk[first + r]! = X at cR hgo hs' hg'
        generalize dk[first + C0]! = Y at cC hgo hs' hg'
        have hfr : (first : Int) + (r : Int) < (n : Int) := by omega
        have hfc : (first : Int) + (C0 : Int) < (n : Int) := by omega
        have HGO := (show Hid _ from hgo)
        clear hgo hchd
        go_wp2_with fail
        go_quiet (first | (go_at_call 189; refine Calls.quiet_of_same (Less_any _ _ _)))
        cases hl : ltInt X Y
        · have hend := HGO.out
          rw [hl] at hend
          simp only [Bool.false_eq_true, if_false] at hend
          rw [HO.out] at hend
          rw [← hend] at h1
          go_wp2
          go_returns
          exact ⟨rfl, h1.drewN _, hg1.trans (grown_dN _ _ _)⟩
        · have hend := HGO.out
          rw [hl, HO.out] at hend
          simp only [if_true] at hend
          replace hs' := hs' (nq + 1)
          replace hg' := hg' (nq + 1)
          go_wp2_with fail
          go_region
          all_goals go_wp2
          go_roundw
          case rel => exact ⟨C0, swp dk (first + r) (first + C0), by first | rfl | (congr 1; omega), by omega, hs', hg', hend.symm⟩
          case measure => simp [intOf]; omega
    · have hend : siftDown ltInt hi first r dk = dk := uDown_end hi first r dk hlt
      rw [HO.out] at hend
      rw [← hend] at h
      have hd1 : decide ((hi : Int) ≤ 2 * (r : Int) + 1) = true := decide_eq_true (by omega)
      go_wp2
      go_returns
      exact ⟨rfl, h, hg⟩
end Go.Proofs.YtakaadcpaeiccabGreat

namespace Go.Proofs.YtakaadcpaeiccabGreat
open Go.RowKit Go.Sort

set_option maxRecDepth 100000 in
set_option maxHeartbeats 4000000 in
theorem heapSort_any (base g cap n a b : Nat) (d : Array Int) (w : World) (h : SR base g cap n d w) (hab : a < b) (hb : b ≤ n) (hn : n ≤ 1000000) :
    Calls Tryz.prog 184 #[.slice (some ⟨g, 0, none⟩) n cap, .int .i64 a, .int .i64 b] w fun e w' => e = .returned (.tuple #[]) ∧ SR base g cap n (heapSort ltInt d a b) w' ∧ w.grownBy w' (some g) := by
  obtain ⟨H, hH⟩ : ∃ H, H = b - a := ⟨_, rfl⟩
  obtain ⟨H2, hH2⟩ : ∃ H2, H2 = (H - 1) / 2 := ⟨_, rfl⟩
  have hq1 : (b : Int) - (a : Int) = (H : Int) := by omega
  have hq2 : ((H : Int) - 1) / 2 = (H2 : Int) := by omega
  have hHn : a + H ≤ n := by omega
  have hH2n : H2 < H := by omega
  have hH1 : (1 : Int) ≤ (H : Int) := by omega
  have hdef : heapSort ltInt d a b = heapPop ltInt a H (heapBuild ltInt H a (H2 + 1) d) := by
    subst hH2; subst hH
    rfl
  have HD := (show Hid _ from hdef)
  clear hdef hH hH2
  go_enter Tryz.func184, Tryz.ntmps184
  go_wp2_with fail
  rw [hq2]
  go_loopw [9] (fun vi wr => ∃ (k : Nat) (iv : Int) (dk : Array Int), vi = .int .i64 iv ∧ iv = (k : Int) - 1 ∧ k ≤ H2 + 1 ∧ SR base g cap n dk wr ∧ w.grownBy wr (some g) ∧ heapBuild ltInt H a k dk = heapBuild ltInt H a (H2 + 1) d) (fun vi _ => (intOf vi + 1).toNat)
  case atStart => exact ⟨H2 + 1, H2, d, rfl, by omega, Nat.le_refl _, h, grn_rfl _ _, rfl⟩
  case round =>
    clear h
    obtain ⟨k, iv, dk, rfl, hiv, hk, h, hg, hO⟩ := hrel
    have HO := (show Hid _ from hO)
    clear hO
    match k with
    | k + 1 =>
      obtain rfl : iv = (k : Int) := by omega
      have hd : decide ((0 : Int) ≤ (k : Int)) = true := decide_eq_true (by omega)
      have hs := siftDown_any base g cap n k H a dk wr h hHn (by omega) hn
      clear hiv
      go_wp2_with fail
      refine hs.mono ?_
      rintro e w1 ⟨rfl, h1, hg1⟩
      clear hs
      have hg2 := hg.trans hg1
      go_wp2
      go_roundw
      case rel =>
        first
          | exact ⟨k, (k : Int) - 1, _, rfl, rfl, by omega, h1, hg2, by rw [← HO.out]; rfl⟩
          | ((repeat apply Exists.intro); refine ⟨?_, rfl⟩; exact ⟨k, (k : Int) - 1, _, rfl, rfl, by omega, h1, hg2, by rw [← HO.out]; rfl⟩)
      case measure => simp [intOf] <;> omega
    | 0 =>
      obtain rfl : iv = -1 := by omega
      have hdk : heapSort ltInt d a b = heapPop ltInt a H dk := by
        rw [HD.out, ← HO.out]
        rfl
      have HK := (show Hid _ from hdk)
      clear hdk hiv HO HD
      go_wp2_with fail
      go_loopw [10] (fun vi wr => ∃ (k : Nat) (iv : Int) (dj : Array Int), vi = .int .i64 iv ∧ iv = (k : Int) - 1 ∧ k ≤ H ∧ SR base g cap n dj wr ∧ w.grownBy wr (some g) ∧ heapPop ltInt a k dj = heapSort ltInt d a b) (fun vi _ => (intOf vi + 1).toNat)
      case atStart => exact ⟨H, (H : Int) - 1, dk, rfl, rfl, Nat.le_refl _, h, hg, HK.out.symm⟩
      case round =>
        clear h hg
        obtain ⟨k, iv, dj, rfl, hiv, hk, h, hg, hO⟩ := hrel
        have HO := (show Hid _ from hO)
        clear hO
        match k with
        | k + 1 =>
          obtain rfl : iv = (k : Int) := by omega
          have hd : decide ((0 : Int) ≤ (k : Int)) = true := decide_eq_true (by omega)
          have cR := h.cell (j := a) (by omega)
          have cC := h.cell (j := a + k) (by omega)
          have fR := h.free a
          have fC := h.free (a + k)
          have hs' := (h.drewN 1).swap a (a + k)
          have hg' := hg.trans ((grown_dN _ 1 (some g)).trans (grown_swap _ g a (a + k) (.int .u32 dj[a + k]!) (.int .u32 dj[a]!)))
          have hfr : (a : Int) < (n : Int) := by omega
          have hfc : (a : Int) + (k : Int) < (n : Int) := by omega
          have hsift := fun W d' (h' : SR base g cap n d' W) => siftDown_any base g cap n 0 k a d' W h' (by omega) (by omega) hn
          have HF := (show Hid _ from hsift)
          clear hiv h hg hsift
          by_cases hk0 : k = 0
          · subst hk0
            rw [Nat.add_zero] at cC fC hs' hg'
            have HSW := (show Hid _ from hs')
            have HGW := (show Hid _ from hg')
            clear hs' hg'
            generalize dj[a]! = X at cR HSW HGW
            clear cC fC
            go_wp2_with fail
            go_region
            all_goals
              have hs := HF.out _ _ HSW.out
              have HS := (show Hid _ from hs)
              clear hs cR fR
              go_wp2_with fail
              refine Calls.mono HS.out ?_
              rintro e w1 ⟨rfl, h1, hg1⟩
              clear HS
              have hg2 := HGW.out.trans hg1
              clear hg1
              go_wp2
              go_roundw
              case rel =>
                first
                  | exact ⟨0, -1, _, rfl, rfl, by omega, h1, hg2, by rw [← HO.out]; rfl⟩
                  | ((repeat apply Exists.intro); refine ⟨?_, rfl⟩; exact ⟨0, -1, _, rfl, rfl, by omega, h1, hg2, by rw [← HO.out]; rfl⟩)
              case measure => simp [intOf] <;> omega
          · generalize dj[a]! = X at cR hs' hg'
            generalize dj[a + k]! = Y at cC hs' hg'
            have hne : ¬ a = a + k := by omega
            go_wp2_with fail
            go_region
            all_goals
              have hs := HF.out _ _ hs'
              have HS := (show Hid _ from hs)
              clear hs hs' cR cC fR fC
              go_wp2_with fail
              refine Calls.mono HS.out ?_
              rintro e w1 ⟨rfl, h1, hg1⟩
              clear HS
              have hg2 := hg'.trans hg1
              clear hg' hg1
              go_wp2
              go_roundw
              case rel =>
                first
                  | exact ⟨k, (k : Int) - 1, _, rfl, rfl, by omega, h1, hg2, by rw [← HO.out]; rfl⟩
                  | ((repeat apply Exists.intro); refine ⟨?_, rfl⟩; exact ⟨k, (k : Int) - 1, _, rfl, rfl, by omega, h1, hg2, by rw [← HO.out]; rfl⟩)
              case measure => simp [intOf] <;> omega
        | 0 =>
          obtain rfl : iv = -1 := by omega
          have hend : dj = heapSort ltInt d a b := HO.out
          rw [hend] at h
          clear hiv HO HK
          go_wp2
          go_returns
          exact ⟨rfl, h, hg⟩

theorem uRev_go (i j : Nat) (d : Array Int) (h : i < j) : reverseLoop i j d = reverseLoop (i + 1) (j - 1) (swp d i j) := by rw [reverseLoop, if_pos h]
theorem uRev_stop (i j : Nat) (d : Array Int) (h : ¬ i < j) : reverseLoop i j d = d := by rw [reverseLoop, if_neg h]

set_option maxRecDepth 100000 in
set_option maxHeartbeats 4000000 in
theorem reverse_any (base g cap n a b : Nat) (d : Array Int) (w : World) (h : SR base g cap n d w) (hab : a < b) (hb : b ≤ n) (hn : n ≤ 1000000) :
    Calls Tryz.prog 187 #[.slice (some ⟨g, 0, none⟩) n cap, .int .i64 a, .int .i64 b] w fun e w' => e = .returned (.tuple #[]) ∧ SR base g cap n (reverseRange d a b) w' ∧ w.grownBy w' (some g) := by
  go_enter Tryz.func187, Tryz.ntmps187
  go_wp2_with fail
  go_loopw [6, 7] (fun vi vj wr => ∃ (i j : Nat) (dk : Array Int), vi = .int .i64 i ∧ vj = .int .i64 j ∧ i ≤ n ∧ j < n ∧ SR base g cap n dk wr ∧ w.grownBy wr (some g) ∧ reverseLoop i j dk = reverseRange d a b) (fun _ vj _ => (intOf vj).toNat)
  case atStart => exact ⟨a, b - 1, d, rfl, by congr 1; omega, by omega, by omega, h, grn_rfl _ _, rfl⟩
  case round =>
    clear h
    obtain ⟨i, j, dk, rfl, rfl, hi, hj, h, hg, hO⟩ := hrel
    have HO := (show Hid _ from hO)
    clear hO
    by_cases hij : i < j
    · have hgo := uRev_go i j dk hij
      rw [HO.out] at hgo
      have cR := h.cell (j := i) (by omega)
      have cC := h.cell (j := j) (by omega)
      have fR := h.free i
      have fC := h.free j
      have hs' := (h.drewN 1).swap i j
      have hg' := hg.trans ((grown_dN _ 1 (some g)).trans (grown_swap _ g i j (.int .u32 dk[j]!) (.int .u32 dk[i]!)))
      generalize dk[i]! = X at cR hs' hg'
      generalize dk[j]! = Y at cC hs' hg'
      have hfr : (i : Int) < (n : Int) := by omega
      have hfc : (j : Int) < (n : Int) := by omega
      have HG := (show Hid _ from hgo)
      clear h hg hgo
      go_wp2_with fail
      go_region
      all_goals
        go_wp2
        go_roundw
        case rel => exact ⟨i + 1, j - 1, _, by go_num, by congr 1; omega, by omega, by omega, hs', hg', HG.out.symm⟩
        case measure => simp [intOf]; omega
    · have hend := uRev_stop i j dk hij
      rw [HO.out] at hend
      rw [← hend] at h
      go_wp2
      go_returns
      exact ⟨rfl, h, hg⟩
end Go.Proofs.YtakaadcpaeiccabGreat
