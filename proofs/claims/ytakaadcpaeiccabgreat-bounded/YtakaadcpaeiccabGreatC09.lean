import Derived.Test.YtakaadcpaeiccabGreatC08
import Derived.Deep.RegionHeld3
import Derived.Deep.Cut
namespace Go.Proofs.YtakaadcpaeiccabGreat
open Go.RowKit Go.Maps

theorem insU_at {cs : List Int} {x : Int} {i : Nat} (h1 : ∀ j y, j < i → cs[j]? = some y → y < x) (h2 : ∀ j y, i ≤ j → cs[j]? = some y → x ≤ y) (hi : i ≤ cs.length) (hx : x ∉ cs) : cs.take i ++ x :: cs.drop i = insU x cs := by
  induction cs generalizing i with
  | nil => simp [insU]
  | cons c cs ih =>
    have hcx : c ≠ x := fun e => hx (by simp [e])
    unfold insU
    rw [if_neg hcx]
    cases i with
    | zero =>
      have := h2 0 c (Nat.le_refl _) rfl
      rw [if_pos (by omega)]
      rfl
    | succ i =>
      have := h1 0 c (by omega) rfl
      rw [if_neg (by omega)]
      simp only [List.take_succ_cons, List.drop_succ_cons, List.cons_append]
      rw [ih (fun j y hj hy => h1 (j + 1) y (by omega) (by simpa using hy)) (fun j y hj hy => h2 (j + 1) y (by omega) (by simpa using hy)) (by simpa using hi) (fun e => hx (by simp [e]))]

theorem Insert_any (v : Value) (n i : Nat) (cs : List Int) (x : Int) (vb : Nat) (w : World) (h : w.ownsRow 0 34 1 v n (cs.map encU)) (hi : i ≤ n) (hv : w.heap[vb]? = some (.cells #[.int .u32 x] 34)) (hne : v.ownBlock ≠ some vb) (hn : n ≤ 1000) :
    Calls Tryz.prog 198 #[v, .int .i64 i, .slice (some ⟨vb, 0, none⟩) 1 1] w fun e w' => ∃ v', e = .returned v' ∧
      w'.ownsRow 0 34 1 v' (n + 1) ((cs.take i ++ x :: cs.drop i).map encU) ∧ w.grownBy w' v.ownBlock ∧ (v'.ownBlock = v.ownBlock ∨ ∀ k, v'.ownBlock = some k → w.heap.size ≤ k) := by
  have hcl : cs.length = n := by simpa using h.1
  by_cases hin : i = n
  · subst hin
    refine (Insert_end v i cs x vb w h hv hn).mono ?_
    rintro e w' ⟨v', rfl, ho, hg, hb⟩
    refine ⟨v', rfl, ?_, hg, ?_⟩
    · rw [List.take_of_length_le (by omega), List.drop_eq_nil_of_le (by omega)]
      exact ho
    · rcases hb with hb | hb
      · exact .inl hb
      · exact .inr (fun k hk => by rw [hb] at hk; cases hk; exact Nat.le_refl _)
  · rcases h.2 with ⟨_, h0⟩ | ⟨g, cap, cur, rfl, _, _, k3, k4, _⟩
    · omega
    · by_cases hr : n + 1 ≤ cap
      · refine (Insert_shift g n cap i cs x vb w h (by omega) hr hv (fun e => hne (by rw [e]; rfl)) hn k4).mono ?_
        rintro e w' ⟨rfl, ho, hg⟩
        exact ⟨_, rfl, ho, hg, .inl rfl⟩
      · refine (Insert_grow g n cap i cs x vb w h (by omega) (by omega) hv hn k3).mono ?_
        rintro e w' ⟨G, rfl, ho, hb⟩
        exact ⟨_, rfl, ho, below_grown hb _, .inr (fun k hk => by cases hk; exact Nat.le_refl _)⟩

set_option maxHeartbeats 1000000 in
theorem sNaN_any (x : Int) (w : World) : Calls Tryz.prog 214 #[.int .u32 x] w fun e w' => e = .returned (.bool false) ∧ w' = w := by
  go_enter Tryz.func214, Tryz.ntmps214
  go_wp2
  go_ret
  exact ⟨by simp, rfl⟩

set_option maxRecDepth 100000 in
set_option maxHeartbeats 4000000 in
/-- slices.BinarySearch over rising numbers. -/
theorem Search_any (v : Value) (n : Nat) (cs : List Int) (x : Int) (w : World) (h : w.ownsRow 0 34 1 v n (cs.map encU)) (hs : cs.Pairwise (· < ·)) (hn : n ≤ 1000) :
    Calls Tryz.prog 197 #[v, .int .u32 x] w fun e w' => ∃ i : Nat, i ≤ n ∧ (∀ j y, j < i → cs[j]? = some y → y < x) ∧ (∀ j y, i ≤ j → cs[j]? = some y → x ≤ y) ∧
      e = .returned (.tuple #[.int .i64 i, .bool (cs[i]? == some x)]) ∧ w' = w := by
  have hcl : cs.length = n := by simpa using h.1
  obtain ⟨ao, c, rfl, _⟩ := row_form h
  go_enter Tryz.func197, Tryz.ntmps197
  go_wp2_with fail
  go_loopw [7, 8] (fun vi vj wr => ∃ i j : Nat, i ≤ j ∧ j ≤ n ∧ vi = .int .i64 i ∧ vj = .int .i64 j ∧ wr = w ∧ (∀ k y, k < i → cs[k]? = some y → y < x) ∧ (∀ k y, j ≤ k → cs[k]? = some y → x ≤ y)) (fun vi vj _ => (intOf vj).toNat - (intOf vi).toNat)
  case atStart => exact ⟨0, n, Nat.zero_le _, Nat.le_refl _, rfl, rfl, rfl, fun k y hk => by omega, fun k y hk hy => by have := (List.getElem?_eq_some_iff.1 hy).1; omega⟩
  case round =>
    obtain ⟨i, j, hij, hjn, rfl, rfl, rfl, hlo, hhi⟩ := hrel
    have HLO := (show Hid _ from hlo)
    have HHI := (show Hid _ from hhi)
    clear hlo hhi
    by_cases hlt : i < j
    · have hd : decide ((i : Int) < (j : Int)) = true := decide_eq_true (by omega)
      have hd' : decide (i < j) = true := decide_eq_true hlt
      have hml : (i + j) / 2 < n := by omega
      obtain ⟨y, hy⟩ : ∃ y, cs[(i + j) / 2]? = some y := ⟨_, List.getElem?_eq_getElem (by omega)⟩
      obtain ⟨g, cap, hv, _⟩ := row_shape' h (by omega)
      cases hv
      have hc := (h.cellAt ((i + j) / 2) (by omega)).trans (by rw [List.getElem?_map, hy]; rfl : (cs.map encU)[(i + j) / 2]? = some (encU y))
      have hmono : ∀ k z, cs[k]? = some z → (k < (i + j) / 2 → z < y) ∧ ((i + j) / 2 < k → y < z) := by
        intro k z hz
        obtain ⟨hk, rfl⟩ := List.getElem?_eq_some_iff.1 hz
        obtain ⟨hm, rfl⟩ := List.getElem?_eq_some_iff.1 hy
        rw [List.pairwise_iff_getElem] at hs
        exact ⟨fun h => hs _ _ _ _ h, fun h => hs _ _ _ _ h⟩
      have HM := (show Hid _ from hmono)
      have HY := (show Hid _ from hy)
      clear hmono hy hs
      go_wp2_with fail
      refine (Less_any _ _ _).mono ?_
      rintro e w1 ⟨rfl, rfl⟩
      by_cases hyx : y < x
      · have hl : Go.Sort.ltInt y x = true := decide_eq_true hyx
        clear hc
        go_wp2
        go_roundw
        case rel =>
          refine ⟨(i + j) / 2 + 1, j, by omega, hjn, by congr 1, rfl, by trivial, fun k z hk hz => ?_, HHI.out⟩
          rcases Nat.lt_or_ge k ((i + j) / 2) with hk' | hk'
          · have := (HM.out k z hz).1 hk'; omega
          · obtain rfl : k = (i + j) / 2 := by omega
            rw [HY.out] at hz
            cases hz
            exact hyx
        case measure => simp [intOf]; omega
      · have hl : Go.Sort.ltInt y x = false := decide_eq_false hyx
        clear hc
        go_wp2
        go_roundw
        case rel =>
          refine ⟨i, (i + j) / 2, by omega, by omega, rfl, by congr 1, by trivial, HLO.out, fun k z hk hz => ?_⟩
          rcases Nat.lt_or_ge ((i + j) / 2) k with hk' | hk'
          · have := (HM.out k z hz).2 hk'; omega
          · obtain rfl : k = (i + j) / 2 := by omega
            rw [HY.out] at hz
            cases hz
            omega
        case measure => simp [intOf]; omega
    · obtain rfl : i = j := by omega
      have hd0 : decide ((i : Int) < (i : Int)) = false := decide_eq_false (by omega)
      by_cases hin : i < n
      · have hdn : decide ((i : Int) < (n : Int)) = true := decide_eq_true (by omega)
        have hin' : (i : Int) < (n : Int) := by omega
        obtain ⟨y, hy⟩ : ∃ y, cs[i]? = some y := ⟨_, List.getElem?_eq_getElem (by omega)⟩
        obtain ⟨g, cap, hv, _⟩ := row_shape' h (by omega)
        cases hv
        have hc := (h.cellAt i (by omega)).trans (by rw [List.getElem?_map, hy]; rfl : (cs.map encU)[i]? = some (encU y))
        have HY := (show Hid _ from hy)
        clear hy hs
        by_cases hyx : y = x
        · subst hyx
          go_wp2
          go_ret2
          exact ⟨i, hjn, HLO.out, HHI.out, by rw [HY.out]; simp, rfl⟩
        · have hne : (y == x) = false := by simpa using hyx
          go_wp2_with (go_at_call 214; refine (sNaN_any _ _).mono ?_; rintro e w1 ⟨rfl, rfl⟩)
          go_ret2
          exact ⟨i, by omega, HLO.out, HHI.out, by rw [HY.out]; simp [hne], rfl⟩
      · obtain rfl : i = n := by omega
        have hnn : cs[i]? = none := List.getElem?_eq_none (by omega)
        have HN := (show Hid _ from hnn)
        clear hnn hs
        go_wp2
        go_ret2
        exact ⟨i, Nat.le_refl _, HLO.out, HHI.out, by rw [HN.out]; rfl, rfl⟩
end Go.Proofs.YtakaadcpaeiccabGreat

namespace Go.Proofs.YtakaadcpaeiccabGreat
open Go.RowKit Go.Maps

set_option maxRecDepth 100000 in
set_option maxHeartbeats 2000000 in
theorem Find_no (T : Nat) (d now : Int) (w : World) (hv : Calls Tryz.prog 116 #[.pointer (some ⟨T, 0, none⟩), .int .u32 d] (w.alloc (rtBox zeroR (.slice none 0 0))) fun e w' => e = .returned (.pointer none) ∧ w' = (w.alloc (rtBox zeroR (.slice none 0 0)))) :
    Calls Tryz.prog 79 #[.pointer (some ⟨T, 0, none⟩), .int .u32 d, .int .u64 now] w fun e w' => e = .returned (.tuple #[rtV zeroR (.slice none 0 0), .bool false]) ∧ Below w.heap.size w w' := by
  have hb : Below w.heap.size w (w.alloc (rtBox zeroR (.slice none 0 0))) := (Below.refl _ _).alloc (Nat.le_refl _) _
  have hZ := LnB.new zeroR (.slice none 0 0) w
  have HV := (show Hid _ from hv)
  clear hv
  dsimp only [rtBox, zeroR] at hb hZ HV
  go_enter Tryz.func79, Tryz.ntmps79
  go_wp2_with fail
  generalize World.alloc _ _ = W1 at hb hZ HV ⊢
  refine Calls.mono HV.out ?_
  rintro e w1 ⟨rfl, rfl⟩
  clear HV
  obtain ⟨z0, z1, z2, z3, z4, z5, z6⟩ := hZ.cell
  have zf := hZ.free
  have hF := hZ.store zeroR (.slice none 0 0)
  have hG := hb.grown (grown_store7 w1 w.heap.size zeroR (.slice none 0 0)) hb.size (fun k e => by cases e; exact Nat.le_refl _)
  dsimp only [zeroR] at z0 z1 z2 z3 z4 z5 z6
  clear hb hZ
  go_wp2
  dsimp only [store7, zeroR] at hF hG
  generalize World.setCell _ _ _ = W8 at hF hG ⊢
  obtain ⟨q0, q1, q2, q3, q4, q5, q6⟩ := hF.cell
  exact bodyPost_ret (v := .tuple #[rtV zeroR (.slice none 0 0), .bool false]) (by simp [results, Tryz.results79, go_sem, q0, q1, q2, q3, q4, q5, q6, zeroR]) rfl ⟨rfl, hG⟩
set_option maxRecDepth 100000 in
set_option maxHeartbeats 2000000 in
theorem Find_old (T : Nat) (d now : Int) (B : Nat) (x : Rt) (v : Value) (hx : x.exp ≤ now) (w : World) (h : LnB B x v w) (hv : Calls Tryz.prog 116 #[.pointer (some ⟨T, 0, none⟩), .int .u32 d] (w.alloc (rtBox zeroR (.slice none 0 0))) fun e w' => e = .returned (.pointer (some ⟨B, 0, none⟩)) ∧ w' = (w.alloc (rtBox zeroR (.slice none 0 0)))) :
    Calls Tryz.prog 79 #[.pointer (some ⟨T, 0, none⟩), .int .u32 d, .int .u64 now] w fun e w' => e = .returned (.tuple #[rtV zeroR (.slice none 0 0), .bool false]) ∧ Below w.heap.size w w' := by
  have hd : decide (x.exp ≤ now) = true := decide_eq_true hx
  have hb : Below w.heap.size w (w.alloc (rtBox zeroR (.slice none 0 0))) := (Below.refl _ _).alloc (Nat.le_refl _) _
  have hZ := LnB.new zeroR (.slice none 0 0) w
  have hL := h.later hb
  have HV := (show Hid _ from hv)
  clear hv
  dsimp only [rtBox, zeroR] at hb hZ HV hL
  go_enter Tryz.func79, Tryz.ntmps79
  go_wp2_with fail
  generalize World.alloc _ _ = W1 at hb hZ HV hL ⊢
  refine Calls.mono HV.out ?_
  rintro e w1 ⟨rfl, rfl⟩
  clear HV
  obtain ⟨_, _, _, _, _, c5, _⟩ := hL.cell
  obtain ⟨z0, z1, z2, z3, z4, z5, z6⟩ := hZ.cell
  have zf := hZ.free
  have hF := hZ.store zeroR (.slice none 0 0)
  have hG := hb.grown (grown_store7 w1 w.heap.size zeroR (.slice none 0 0)) hb.size (fun k e => by cases e; exact Nat.le_refl _)
  dsimp only [zeroR] at z0 z1 z2 z3 z4 z5 z6
  clear hb hZ hL
  go_wp2
  dsimp only [store7, zeroR] at hF hG
  generalize World.setCell _ _ _ = W8 at hF hG ⊢
  obtain ⟨q0, q1, q2, q3, q4, q5, q6⟩ := hF.cell
  exact bodyPost_ret (v := .tuple #[rtV zeroR (.slice none 0 0), .bool false]) (by simp [results, Tryz.results79, go_sem, q0, q1, q2, q3, q4, q5, q6, zeroR]) rfl ⟨rfl, hG⟩
set_option maxRecDepth 100000 in
set_option maxHeartbeats 2000000 in
theorem Find_yes (T : Nat) (d now : Int) (B : Nat) (x : Rt) (v : Value) (hx : ¬ x.exp ≤ now) (hn : x.bef.length ≤ 4) (w : World) (h : LnB B x v w) (hr : w.ownsRow 0 34 1 v x.bef.length (x.bef.map encU)) (hv : Calls Tryz.prog 116 #[.pointer (some ⟨T, 0, none⟩), .int .u32 d] (w.alloc (rtBox zeroR (.slice none 0 0))) fun e w' => e = .returned (.pointer (some ⟨B, 0, none⟩)) ∧ w' = (w.alloc (rtBox zeroR (.slice none 0 0)))) :
    Calls Tryz.prog 79 #[.pointer (some ⟨T, 0, none⟩), .int .u32 d, .int .u64 now] w fun e w' => ∃ v', e = .returned (.tuple #[rtV x v', .bool true]) ∧ w'.ownsRow w.heap.size 34 1 v' x.bef.length (x.bef.map encU) ∧ Below w.heap.size w w' := by
  have hd : decide (x.exp ≤ now) = false := decide_eq_false hx
  have hb : Below w.heap.size w (w.alloc (rtBox zeroR (.slice none 0 0))) := (Below.refl _ _).alloc (Nat.le_refl _) _
  have hs1 : w.heap.size + 1 ≤ (w.alloc (rtBox zeroR (.slice none 0 0))).heap.size := by simp
  have hZ := LnB.new zeroR (.slice none 0 0) w
  have hL := h.later hb
  have hR := step_append_kept hr hb
  have HV := (show Hid _ from hv)
  clear hv
  dsimp only [rtBox, zeroR] at hb hs1 hZ HV hL hR
  go_enter Tryz.func79, Tryz.ntmps79
  go_wp2_with fail
  generalize World.alloc _ _ = W1 at hb hs1 hZ HV hL hR ⊢
  refine Calls.mono HV.out ?_
  rintro e w1 ⟨rfl, rfl⟩
  clear HV
  obtain ⟨_, _, _, _, _, c5, _⟩ := hL.cell
  go_wp2_with fail
  refine (handOut_any B x v hn _ hL hR).mono ?_
  rintro e w2 ⟨v', rfl, ho2, hb2⟩
  obtain ⟨ao2, c2', rfl, _⟩ := row_form ho2
  have hZ2 := hZ.later hb2
  have hbb := hb.trans (hb2.mono hb.size)
  obtain ⟨z0, z1, z2, z3, z4, z5, z6⟩ := hZ2.cell
  have zf := hZ2.free
  have hlt := ho2.lt
  have hF := hZ2.store x (.slice ao2 x.bef.length c2')
  have hg4 := grown_store7 w2 w.heap.size x (.slice ao2 x.bef.length c2')
  have ho4 := ho2.kept hg4 (.inr (fun e => by have := (hlt _ e).1; omega))
  have hG := hbb.grown hg4 hbb.size (fun k e => by cases e; exact Nat.le_refl _)
  dsimp only at z0 z1 z2 z3 z4 z5 z6
  clear hb hZ hL hR hb2 hbb ho2 hlt hg4 c5 hZ2
  go_wp2
  dsimp only [store7] at hF hG ho4
  generalize World.setCell _ _ _ = W8 at hF hG ho4 ⊢
  obtain ⟨q0, q1, q2, q3, q4, q5, q6⟩ := hF.cell
  exact bodyPost_ret (v := .tuple #[rtV x (.slice ao2 x.bef.length c2'), .bool true]) (by simp [results, Tryz.results79, go_sem, q0, q1, q2, q3, q4, q5, q6]) rfl ⟨_, rfl, ownsRow_base_a ho4 (by omega), hG⟩
theorem Find_any (me : Int) (T : Nat) (S : Nat → Prop) (A : List Rt) (d now : Int) (hd : U32 d) (w : World) (h : Tab me T S A w) :
    Calls Tryz.prog 79 #[.pointer (some ⟨T, 0, none⟩), .int .u32 d, .int .u64 now] w fun e w' => ∃ v', e = .returned (.tuple #[rtV (findL A d now).1 v', .bool (findL A d now).2]) ∧ w'.ownsRow w.heap.size 34 1 v' (findL A d now).1.bef.length ((findL A d now).1.bef.map encU) ∧ Below w.heap.size w w' := by
  obtain ⟨M, f, g, hM, hS⟩ := h
  have hb : Below w.heap.size w (w.alloc (rtBox zeroR (.slice none 0 0))) := (Below.refl _ _).alloc (Nat.le_refl _) _
  have hv := valid_any (hM.later hb) hd
  unfold validP at hv
  unfold findL
  cases hl : lineOf A d with
  | none =>
    rw [hl] at hv
    refine (Find_no T d now w hv).mono ?_
    rintro e w' ⟨rfl, hb'⟩
    exact ⟨_, rfl, ⟨rfl, .inl ⟨rfl, rfl⟩⟩, hb'⟩
  | some x =>
    rw [hl] at hv
    obtain ⟨hx, hxd, B, hB, hL, hR⟩ := hM.line hl
    rw [hB] at hv
    cases hxv : x.valid with
    | false =>
      simp only [hxv] at hv
      refine (Find_no T d now w hv).mono ?_
      rintro e w' ⟨rfl, hb'⟩
      simp only [hxv, Bool.false_and]
      exact ⟨_, rfl, ⟨rfl, .inl ⟨rfl, rfl⟩⟩, hb'⟩
    | true =>
      simp only [hxv, if_true, Option.map_some] at hv
      by_cases hex : x.exp ≤ now
      · refine (Find_old T d now B x (g d) hex w hL hv).mono ?_
        rintro e w' ⟨rfl, hb'⟩
        have : decide (x.exp > now) = false := decide_eq_false (by omega)
        simp only [hxv, this, Bool.and_false]
        exact ⟨_, rfl, ⟨rfl, .inl ⟨rfl, rfl⟩⟩, hb'⟩
      · refine (Find_yes T d now B x (g d) hex (hM.ok x hx).befs w hL hR hv).mono ?_
        rintro e w' ⟨v', rfl, ho, hb'⟩
        have : decide (x.exp > now) = true := decide_eq_true (by omega)
        simp only [hxv, this, Bool.and_true, if_true]
        exact ⟨v', rfl, ho, hb'⟩
end Go.Proofs.YtakaadcpaeiccabGreat

namespace Go.Proofs.YtakaadcpaeiccabGreat
open Go.RowKit Go.Maps

@[reducible] def newR (d s h n e : Int) : Rt := ⟨d, s, h, n, true, e, []⟩
def updF (s h n e : Int) (y : Rt) : Rt := ⟨y.dest, s, h, n, true, e, []⟩
def updL (me : Int) (A : List Rt) (d s h n e : Int) : List Rt × Int :=
  if d = me ∨ d = 0 then (A, 2)
  else match lineOf A d with
    | some x => if grt (newR d s h n e) x then (modL A d (updF s h n e), 0) else (A, 3)
    | none => if 8 ≤ A.length then (A, 4) else (insL A (newR d s h n e), 0)

/-- A line in a new block. -/
theorem MT.fresh {me : Int} {T M : Nat} {f : Int → Option Nat} {g : Int → Value} {A : List Rt} {w : World} (h : MT me T M f g A w) {d : Int} {y : Rt} (hyd : y.dest = d) (hok : y.Ok) (hbef : y.bef = []) {N : Nat} (_hN : w.heap.size ≤ N) {w' : World} {A' : List Rt}
    (hL : LnB N y (.slice none 0 0) w') (hm : MapP w' M (updP f d (some N)) A'.length) (hk : ∀ k, k < w.heap.size → k ≠ M → w'.heap[k]? = w.heap[k]?)
    (hmem : ∀ z ∈ A', z = y ∨ (z ∈ A ∧ z.dest ≠ d)) (hy : y ∈ A') (hsub : ∀ z ∈ A, z.dest ≠ d → z ∈ A') (hasc : Asc A') (hlen : A'.length ≤ 8) :
    MT me T M (updP f d (some N)) (fun e => if e = d then .slice none 0 0 else g e) A' w' ∧ ∀ k, TIn T M (updP f d (some N)) (fun e => if e = d then .slice none 0 0 else g e) A' k → TIn T M f g A k ∨ k = N := by
  have hMis : ∃ es cl, w.heap[M]? = some (.map es cl) := by
    obtain ⟨D, ⟨es, cl, hm, _⟩, _⟩ := h.map
    exact ⟨es, cl, hm⟩
  obtain ⟨es, cl, hMm⟩ := hMis
  have hTM : T ≠ M := fun e => by
    have := h.blk
    unfold TbB at this
    rw [e, hMm] at this
    cases this
  have hfo : ∀ z : Rt, z.dest ≠ d → updP f d (some N) z.dest = f z.dest := fun z hz => if_neg hz
  have hfd : ∀ z : Rt, z.dest = d → updP f d (some N) z.dest = some N := fun z hz => if_pos hz
  have hgo : ∀ z : Rt, z.dest ≠ d → (if z.dest = d then Value.slice none 0 0 else g z.dest) = g z.dest := fun z hz => if_neg hz
  have hgd : ∀ z : Rt, z.dest = d → (if z.dest = d then Value.slice none 0 0 else g z.dest) = Value.slice none 0 0 := fun z hz => if_pos hz
  refine ⟨⟨h.blk.block (hk T h.blk.lt hTM), hm, hasc, ?_, ?_, ?_, ?_, ?_, hlen⟩, ?_⟩
  · intro z hz
    rcases hmem z hz with rfl | ⟨hzA, _⟩
    · exact hok
    · exact h.ok z hzA
  · intro e B he hf
    by_cases hed : e = d
    · exact ⟨y, hy, by rw [hyd, hed]⟩
    · unfold updP at hf
      rw [if_neg hed] at hf
      obtain ⟨z, hz, hze⟩ := h.dom e B he hf
      exact ⟨z, hsub z hz (by rw [hze]; exact hed), hze⟩
  · intro z hz
    rcases hmem z hz with rfl | ⟨hzA, hzd⟩
    · refine ⟨N, hfd z hyd, ?_⟩
      rw [hgd z hyd]
      exact hL
    · obtain ⟨B, h1, h2⟩ := h.ln z hzA
      refine ⟨B, by rw [hfo z hzd]; exact h1, ?_⟩
      rw [hgo z hzd]
      refine h2.block (hk B h2.lt fun e => ?_)
      subst e
      unfold LnB at h2
      rw [hMm] at h2
      cases h2
  · intro z hz
    rcases hmem z hz with rfl | ⟨hzA, hzd⟩
    · rw [hgd z hyd, hbef]
      exact ⟨rfl, .inl ⟨rfl, rfl⟩⟩
    · rw [hgo z hzd]
      exact row_at (h.row z hzA) fun k hk' => hk k ((h.row z hzA).lt k hk').2 (fun e => by
        subst e
        exact row_not (h.row z hzA) hMm (fun c e => by cases e) hk')
  · intro a ha b hb hab
    rcases hmem a ha with rfl | ⟨haA, had⟩
    · rw [hgd a hyd]
      exact .inl rfl
    · rw [hgo a had]
      rcases hmem b hb with rfl | ⟨hbA, hbd⟩
      · rw [hgd b hyd]
        cases (g a.dest).ownBlock <;> simp [Value.ownBlock]
      · rw [hgo b hbd]
        exact h.apart a haA b hbA hab
  · intro k hk'
    rcases hk' with rfl | rfl | ⟨z, hz, hk' | hk'⟩
    · exact .inl (.inl rfl)
    · exact .inl (.inr (.inl rfl))
    · rcases hmem z hz with rfl | ⟨hzA, hzd⟩
      · rw [hfd z hyd] at hk'
        exact .inr (Option.some.inj hk').symm
      · rw [hfo z hzd] at hk'
        exact .inl (.inr (.inr ⟨z, hzA, .inl hk'⟩))
    · dsimp only at hk'
      rcases hmem z hz with rfl | ⟨hzA, hzd⟩
      · rw [hgd z hyd] at hk'
        cases hk'
      · rw [hgo z hzd] at hk'
        exact .inl (.inr (.inr ⟨z, hzA, .inr hk'⟩))

set_option maxRecDepth 100000 in
set_option maxHeartbeats 2000000 in
theorem Update_own (T M : Nat) (me d s h n e : Int) (hd : d = me ∨ d = 0) (w : World) (hT : TbB T me M w) :
    Calls Tryz.prog 161 #[.pointer (some ⟨T, 0, none⟩), .int .u32 d, .int .u32 s, .int .i64 h, .int .u32 n, .int .u64 e] w fun r w' => r = .returned (.int .i64 2) ∧ w' = w := by
  obtain ⟨c0, c1⟩ := hT.cell
  by_cases h1 : d = me
  · subst h1
    go_enter Tryz.func161, Tryz.ntmps161
    go_wp2
    go_ret
    exact ⟨rfl, rfl⟩
  · have h2 : d = 0 := by rcases hd with h | h; exact absurd h h1; exact h
    subst h2
    have hq : ((0 : Int) == me) = false := by simpa using h1
    go_enter Tryz.func161, Tryz.ntmps161
    go_wp2
    go_ret
    exact ⟨rfl, rfl⟩

/-- What Update's test of ranks holds on to. -/
@[reducible] def UpS (N B : Nat) (y x : Rt) (v : Value) (W0 W : World) : Prop :=
  (W.cell? ⟨N, 0, none⟩ = some (.int .u32 y.dest) ∧ W.cell? ⟨N, 1, none⟩ = some (.int .u32 y.seq) ∧ W.cell? ⟨N, 2, none⟩ = some (.int .i64 y.hops) ∧ W.cell? ⟨N, 3, none⟩ = some (.int .u32 y.next) ∧ W.cell? ⟨N, 4, none⟩ = some (.bool y.valid) ∧ W.cell? ⟨N, 5, none⟩ = some (.int .u64 y.exp) ∧ W.cell? ⟨N, 6, none⟩ = some (.slice none 0 0)) ∧
  (W.cell? ⟨B, 0, none⟩ = some (.int .u32 x.dest) ∧ W.cell? ⟨B, 1, none⟩ = some (.int .u32 x.seq) ∧ W.cell? ⟨B, 2, none⟩ = some (.int .i64 x.hops) ∧ W.cell? ⟨B, 3, none⟩ = some (.int .u32 x.next) ∧ W.cell? ⟨B, 4, none⟩ = some (.bool x.valid) ∧ W.cell? ⟨B, 5, none⟩ = some (.int .u64 x.exp) ∧ W.cell? ⟨B, 6, none⟩ = some v) ∧
  Below W0.heap.size W0 W
theorem UpS.start {N B : Nat} {y x : Rt} {v : Value} {W0 : World} (h1 : LnB N y (.slice none 0 0) W0) (h2 : LnB B x v W0) : UpS N B y x v W0 W0 := ⟨h1.cell, h2.cell, Below.refl _ _⟩
theorem UpS.drew {N B : Nat} {y x : Rt} {v : Value} {W0 W : World} (h : UpS N B y x v W0 W) : UpS N B y x v W0 W.drew := ⟨h.1, h.2.1, h.2.2.trans ⟨rfl, rfl, rfl, Nat.le_refl _, fun _ _ => rfl⟩⟩
theorem UpS.below {N B : Nat} {y x : Rt} {v : Value} {W0 W W1 : World} (h1 : LnB N y (.slice none 0 0) W0) (h2 : LnB B x v W0) (h : UpS N B y x v W0 W) (hb : Below W.heap.size W W1) : UpS N B y x v W0 W1 := by
  have hbb := h.2.2.trans (hb.mono h.2.2.size)
  exact ⟨(h1.later hbb).cell, (h2.later hbb).cell, hbb⟩
theorem UpS.mk' {N B : Nat} {y x : Rt} {v : Value} {W0 W : World} (h1 : LnB N y (.slice none 0 0) W0) (h2 : LnB B x v W0) (hb : Below W0.heap.size W0 W) : UpS N B y x v W0 W := ⟨(h1.later hb).cell, (h2.later hb).cell, hb⟩

set_option maxRecDepth 100000 in
set_option maxHeartbeats 4000000 in
theorem Update_old (T M B : Nat) (me d s h n e : Int) (hd : ¬ d = me) (hd0 : ¬ d = 0) (hs : U32 s) (x : Rt) (hxs : U32 x.seq) (v : Value) (hgr : grt (newR d s h n e) x = false) (w : World) (hT : TbB T me M w)
    (hlk : (Instr.lookup 156 (.map (some M)) (.int .u32 d) true).run Tryz.prog (w.alloc (rtBox (newR d s h n e) (.slice none 0 0))) = .ok (.tuple #[.pointer (some ⟨B, 0, none⟩), .bool true]) (w.alloc (rtBox (newR d s h n e) (.slice none 0 0)))) (hL : LnB B x v w) :
    Calls Tryz.prog 161 #[.pointer (some ⟨T, 0, none⟩), .int .u32 d, .int .u32 s, .int .i64 h, .int .u32 n, .int .u64 e] w fun r w' => r = .returned (.int .i64 3) ∧ Below w.heap.size w w' := by
  have hb : Below w.heap.size w (w.alloc (rtBox (newR d s h n e) (.slice none 0 0))) := (Below.refl _ _).alloc (Nat.le_refl _) _
  have hN := LnB.new (newR d s h n e) (.slice none 0 0) w
  have hL1 := hL.later hb
  have q1 : (d == me) = false := by simpa using hd
  have q2 : (d == 0) = false := by simpa using hd0
  obtain ⟨c0, c1⟩ := hT.cell
  obtain ⟨t0, t1⟩ := (hT.block (hb.block T hT.lt)).cell
  dsimp only [rtBox, newR] at hb hN hL1 t0 t1 hlk
  have hcall := fun W => rankOf_any (newR d s h n e) hs (.slice none 0 0) W
  have hcall2 := fun W => rankOf_any x hxs v W
  have HC1 := (show Hid _ from hcall)
  have HC2 := (show Hid _ from hcall2)
  have hcall3 : ∀ W, Calls Tryz.prog 180 #[.agg #[.int .i64 (rk (newR d s h n e)), .int .i64 h], .agg #[.int .i64 (rk x), .int .i64 x.hops]] W fun r w' => r = .returned (.bool false) ∧ Below W.heap.size W w' := fun W => by
    rw [← hgr]
    exact greater_any _ _ _ _ W
  have HC3 := (show Hid _ from hcall3)
  clear hcall hcall2 hcall3
  go_enter Tryz.func161, Tryz.ntmps161
  go_wp2_with fail
  clear hlk t0 t1
  generalize World.alloc _ _ = W1 at hb hN hL1 ⊢
  go_cut [51] from 41 (fun r W => r = .bool true ∧ Below W1.heap.size W1 W)
  case first =>
    have hS : UpS w.heap.size B (newR d s h n e) x v W1 W1 := UpS.start hN hL1
    go_region_held3 (UpS w.heap.size B (newR d s h n e) x v W1) (first | exact UpS.drew (by assumption) | assumption | exact UpS.below hN hL1 (by assumption) (by assumption)) (first
      | (go_at_call_of 179 (Value.int IntKind.u32 s); refine Calls.mono (HC1.out _) ?_; rintro r w3 ⟨rfl, hb3⟩)
      | (go_at_call_of 179 v; refine Calls.mono (HC2.out _) ?_; rintro r w4 ⟨rfl, hb4⟩)
      | (go_at_call 180; refine Calls.mono (HC3.out _) ?_; rintro r w5 ⟨rfl, hb5⟩))
    all_goals
      rename_i hS5
      have hb5' := (show UpS w.heap.size B (newR d s h n e) x v W1 _ from hS5).2.2
      go_wp2_with fail
      go_meet
      exact ⟨rfl, hb5'⟩
  case rest =>
    obtain ⟨rfl, hb2⟩ := hcut
    go_wp2
    go_ret
    exact ⟨rfl, hb.trans (hb2.mono hb.size)⟩
end Go.Proofs.YtakaadcpaeiccabGreat

namespace Go.Proofs.YtakaadcpaeiccabGreat
open Go.RowKit Go.Maps

/-- What Update leaves where it has learnt: a new block, and the map's word of it. -/
def UpP (M : Nat) (f : Int → Option Nat) (s0 : Nat) (y : Rt) (w : World) (r : Ending) (w' : World) : Prop :=
  r = .returned (.int .i64 0) ∧ LnB w.heap.size y (.slice none 0 0) w' ∧ MapP w' M (updP f y.dest (some w.heap.size)) (if (f y.dest).isSome then s0 else s0 + 1) ∧ w.grownBy w' (some M)

set_option maxRecDepth 100000 in
set_option maxHeartbeats 4000000 in
theorem Update_new (T M B s0 : Nat) (me d s h n e : Int) (f : Int → Option Nat) (hd : ¬ d = me) (hd0 : ¬ d = 0) (hdu : U32 d) (hs : U32 s) (x : Rt) (hxs : U32 x.seq) (v : Value) (hgr : grt (newR d s h n e) x = true) (w : World) (hT : TbB T me M w) (hm : MapP w M f s0) (hs0 : s0 ≤ 100)
    (hf : f d = some B) (hL : LnB B x v w) :
    Calls Tryz.prog 161 #[.pointer (some ⟨T, 0, none⟩), .int .u32 d, .int .u32 s, .int .i64 h, .int .u32 n, .int .u64 e] w (UpP M f s0 (newR d s h n e) w) := by
  have hb : Below w.heap.size w (w.alloc (rtBox (newR d s h n e) (.slice none 0 0))) := (Below.refl _ _).alloc (Nat.le_refl _) _
  have hN := LnB.new (newR d s h n e) (.slice none 0 0) w
  have hL1 := hL.later hb
  have hm1 := hm.block (hb.block M hm.lt)
  have hT1 := hT.block (hb.block T hT.lt)
  have hlk := hm1.look_ok hdu
  rw [hf] at hlk
  simp only [ptrOf, Option.isSome_some] at hlk
  have q1 : (d == me) = false := by simpa using hd
  have q2 : (d == 0) = false := by simpa using hd0
  have hMl := hm.lt
  obtain ⟨c0, c1⟩ := hT.cell
  obtain ⟨t0, t1⟩ := hT1.cell
  dsimp only [rtBox, newR] at hb hN hL1 t0 t1 hlk hm1 hT1
  have hcall := fun W => rankOf_any (newR d s h n e) hs (.slice none 0 0) W
  have hcall2 := fun W => rankOf_any x hxs v W
  have HC1 := (show Hid _ from hcall)
  have HC2 := (show Hid _ from hcall2)
  have hcall3 : ∀ W, Calls Tryz.prog 180 #[.agg #[.int .i64 (rk (newR d s h n e)), .int .i64 h], .agg #[.int .i64 (rk x), .int .i64 x.hops]] W fun r w' => r = .returned (.bool true) ∧ Below W.heap.size W w' := fun W => by
    rw [← hgr]
    exact greater_any _ _ _ _ W
  have HC3 := (show Hid _ from hcall3)
  clear hcall hcall2 hcall3
  go_enter Tryz.func161, Tryz.ntmps161
  go_wp2_with fail
  clear hlk t0 t1
  generalize World.alloc _ _ = W1 at hb hN hL1 hm1 hT1 ⊢
  go_cut [51] from 41 (fun r W => r = .bool false ∧ Below W1.heap.size W1 W)
  case first =>
    have hS : UpS w.heap.size B (newR d s h n e) x v W1 W1 := UpS.start hN hL1
    go_region_held3 (UpS w.heap.size B (newR d s h n e) x v W1) (first | exact UpS.drew (by assumption) | assumption | exact UpS.below hN hL1 (by assumption) (by assumption)) (first
      | (go_at_call_of 179 (Value.int IntKind.u32 s); refine Calls.mono (HC1.out _) ?_; rintro r w3 ⟨rfl, hb3⟩)
      | (go_at_call_of 179 v; refine Calls.mono (HC2.out _) ?_; rintro r w4 ⟨rfl, hb4⟩)
      | (go_at_call 180; refine Calls.mono (HC3.out _) ?_; rintro r w5 ⟨rfl, hb5⟩))
    all_goals
      rename_i hS5
      have hb5' := (show UpS w.heap.size B (newR d s h n e) x v W1 _ from hS5).2.2
      go_wp2_with fail
      go_meet
      exact ⟨rfl, hb5'⟩
  case rest =>
    obtain ⟨rfl, hb2⟩ := hcut
    have hbb := hb.trans (hb2.mono hb.size)
    have hN2 := hN.later hb2
    have hm2 := hm1.block (hb2.block M hm1.lt)
    obtain ⟨t0, t1⟩ := (hT1.block (hb2.block T hT1.lt)).cell
    obtain ⟨W6, hr, hm6, hg6⟩ := hm2.put (by unfold maxLen; omega) hdu w.heap.size
    have hN6 := hN2.block (hg6.block _ hN2.lt (fun e => by cases e; omega))
    have hg : w.grownBy W6 (some M) := ⟨hg6.os.trans hbb.os, hg6.tape.trans hbb.tape, hg6.output.trans hbb.output, Nat.le_trans hbb.size hg6.size, fun k hk hn => (hg6.block k (Nat.lt_of_lt_of_le hk hbb.size) hn).trans (hbb.block k hk)⟩
    clear hb hN hL1 hm1 hT1 hb2 hbb hN2 hm2 hg6
    go_wp2
    go_ret
    exact ⟨rfl, hN6, hm6, hg⟩

set_option maxRecDepth 100000 in
set_option maxHeartbeats 4000000 in
theorem Update_off (T M s0 : Nat) (me d s h n e : Int) (f : Int → Option Nat) (hd : ¬ d = me) (hd0 : ¬ d = 0) (hdu : U32 d) (w : World) (hT : TbB T me M w) (hm : MapP w M f s0) (hs0 : s0 ≤ 100)
    (hf : f d = none) :
    Calls Tryz.prog 161 #[.pointer (some ⟨T, 0, none⟩), .int .u32 d, .int .u32 s, .int .i64 h, .int .u32 n, .int .u64 e] w fun r w' => if 8 ≤ s0 then r = .returned (.int .i64 4) ∧ Below w.heap.size w w' else UpP M f s0 (newR d s h n e) w r w' := by
  have hb : Below w.heap.size w (w.alloc (rtBox (newR d s h n e) (.slice none 0 0))) := (Below.refl _ _).alloc (Nat.le_refl _) _
  have hN := LnB.new (newR d s h n e) (.slice none 0 0) w
  have hm1 := hm.block (hb.block M hm.lt)
  have hT1 := hT.block (hb.block T hT.lt)
  have hlk := hm1.look_ok hdu
  rw [hf] at hlk
  simp only [ptrOf, Option.isSome_none] at hlk
  have q1 : (d == me) = false := by simpa using hd
  have q2 : (d == 0) = false := by simpa using hd0
  have hMl := hm.lt
  obtain ⟨c0, c1⟩ := hT.cell
  obtain ⟨t0, t1⟩ := hT1.cell
  dsimp only [rtBox, newR] at hb hN t0 t1 hlk hm1 hT1
  go_enter Tryz.func161, Tryz.ntmps161
  go_wp2_with fail
  clear hlk t0 t1
  generalize World.alloc _ _ = W1 at hb hN hm1 hT1 ⊢
  go_quiet (fail)
  go_wp2_with fail
  have hb2 : Below W1.heap.size W1 (W1.drewN nq) := below_drewN (Below.refl _ _) _
  have hbb := hb.trans (hb2.mono hb.size)
  have hN2 := hN.later hb2
  have hm2 := hm1.block (hb2.block M hm1.lt)
  have hT2 := hT1.block (hb2.block T hT1.lt)
  clear hb hN hm1 hT1 hb2
  generalize World.drewN _ _ = W2 at hbb hN2 hm2 hT2 ⊢
  refine (full_any T M s0 me f _ hT2 hm2).mono ?_
  rintro r w3 ⟨rfl, rfl⟩
  obtain ⟨t0, t1⟩ := hT2.cell
  by_cases h8 : 8 ≤ s0
  · have hd8 : decide (8 ≤ s0) = true := decide_eq_true h8
    go_wp2
    go_ret
    exact ⟨rfl, hbb⟩
  · have hd8 : decide (8 ≤ s0) = false := decide_eq_false h8
    obtain ⟨W6, hr, hm6, hg6⟩ := hm2.put (by unfold maxLen; omega) hdu w.heap.size
    have hN6 := hN2.block (hg6.block _ hN2.lt (fun e => by cases e; omega))
    have hg : w.grownBy W6 (some M) := ⟨hg6.os.trans hbb.os, hg6.tape.trans hbb.tape, hg6.output.trans hbb.output, Nat.le_trans hbb.size hg6.size, fun k hk hn => (hg6.block k (Nat.lt_of_lt_of_le hk hbb.size) hn).trans (hbb.block k hk)⟩
    clear hbb hN2 hm2 hT2 hg6
    go_wp2
    go_ret
    exact ⟨rfl, hN6, hm6, hg⟩

theorem newR_ok {d s h n e : Int} (hd : U32 d) (hs : U32 s) (hh : I64 h) (hn : U32 n) (he : U64 e) : (newR d s h n e).Ok := ⟨hd, hs, hh, hn, he, by simp, by simp, by simp⟩
/-- The new table, laid in memory. -/
theorem Tab.fresh {me : Int} {T M : Nat} {f : Int → Option Nat} {g : Int → Value} {A : List Rt} {S : Nat → Prop} {w w' : World} (hM : MT me T M f g A w) (hS : ∀ k, TIn T M f g A k → S k) {y : Rt} (hok : y.Ok) (hbef : y.bef = []) {A' : List Rt} (hL : LnB w.heap.size y (.slice none 0 0) w') (hm : MapP w' M (updP f y.dest (some w.heap.size)) A'.length) (hg : w.grownBy w' (some M))
    (hmem : ∀ z ∈ A', z = y ∨ (z ∈ A ∧ z.dest ≠ y.dest)) (hy : y ∈ A') (hsub : ∀ z ∈ A, z.dest ≠ y.dest → z ∈ A') (hasc : Asc A') (hlen : A'.length ≤ 8) : Tab me T (ext S w.heap.size w'.heap.size) A' w' ∧ Fx S w w' := by
  obtain ⟨h1, h2⟩ := hM.fresh rfl hok hbef (Nat.le_refl _) hL hm (fun k hk hkM => hg.block k hk (fun e => hkM (by cases e; rfl))) hmem hy hsub hasc hlen
  refine ⟨⟨M, _, _, h1, fun k hk => ?_⟩, Fx.grown hg (fun k e => by cases e; exact hS _ (.inr (.inl rfl)))⟩
  rcases h2 k hk with h3 | rfl
  · exact .inl (hS k h3)
  · exact .inr ⟨Nat.le_refl _, hL.lt⟩
theorem Update_any (me : Int) (T : Nat) (S : Nat → Prop) (A : List Rt) (d s h n e : Int) (hd : U32 d) (hs : U32 s) (hh : I64 h) (hn : U32 n) (he : U64 e) (w : World) (hTab : Tab me T S A w) :
    Calls Tryz.prog 161 #[.pointer (some ⟨T, 0, none⟩), .int .u32 d, .int .u32 s, .int .i64 h, .int .u32 n, .int .u64 e] w fun r w' => r = .returned (.int .i64 (updL me A d s h n e).2) ∧ Tab me T (ext S w.heap.size w'.heap.size) (updL me A d s h n e).1 w' ∧ Fx S w w' := by
  obtain ⟨M, f, g, hM, hS⟩ := hTab
  have hold : ∀ w', Below w.heap.size w w' → Tab me T (ext S w.heap.size w'.heap.size) A w' ∧ Fx S w w' := fun w' hb => ⟨⟨M, f, g, hM.later hb, fun k hk => .inl (hS k hk)⟩, Fx.below hb⟩
  unfold updL
  by_cases hown : d = me ∨ d = 0
  · rw [if_pos hown]
    refine (Update_own T M me d s h n e hown w hM.blk).mono ?_
    rintro r w' ⟨rfl, rfl⟩
    exact ⟨rfl, hold _ (Below.refl _ _)⟩
  · rw [if_neg hown]
    have hd1 : ¬ d = me := fun h => hown (.inl h)
    have hd0 : ¬ d = 0 := fun h => hown (.inr h)
    cases hl : lineOf A d with
    | some x =>
      obtain ⟨hx, hxd, B, hB, hL, hR⟩ := hM.line hl
      dsimp only
      cases hgr : grt (newR d s h n e) x with
      | false =>
        rw [if_neg (by simp)]
        have hb : Below w.heap.size w (w.alloc (rtBox (newR d s h n e) (.slice none 0 0))) := (Below.refl _ _).alloc (Nat.le_refl _) _
        have hlk := (hM.map.block (hb.block M hM.map.lt)).look_ok hd
        rw [hB] at hlk
        refine (Update_old T M B me d s h n e hd1 hd0 hs x (hM.ok x hx).seq (g d) hgr w hM.blk hlk hL).mono ?_
        rintro r w' ⟨rfl, hb'⟩
        exact ⟨rfl, hold _ hb'⟩
      | true =>
        rw [if_pos rfl]
        refine (Update_new T M B A.length me d s h n e f hd1 hd0 hd hs x (hM.ok x hx).seq (g d) hgr w hM.blk hM.map (by have := hM.len; omega) hB hL).mono ?_
        rintro r w' ⟨rfl, hL', hm', hg'⟩
        rw [show (f (newR d s h n e).dest).isSome = true by rw [show (newR d s h n e).dest = d from rfl, hB]; rfl, if_pos rfl] at hm'
        have hmem : ∀ z ∈ modL A d (updF s h n e), z = newR d s h n e ∨ (z ∈ A ∧ z.dest ≠ d) := by
          intro z hz
          rcases modL_mem hz with ⟨z0, hz0, hz0d, rfl⟩ | hz
          · left; unfold updF; rw [hz0d]
          · exact .inr hz
        have hyin : newR d s h n e ∈ modL A d (updF s h n e) := List.mem_map.2 ⟨x, hx, by rw [if_pos hxd]; unfold updF; rw [hxd]⟩
        refine ⟨rfl, Tab.fresh (A' := modL A d (updF s h n e)) hM hS (newR_ok hd hs hh hn he) rfl hL' (by rw [modL_length]; exact hm') hg' hmem hyin (fun z hz hzd => List.mem_map.2 ⟨z, hz, if_neg hzd⟩) (modL_asc hM.asc _ _ (fun _ => rfl)) (by rw [modL_length]; exact hM.len)⟩
    | none =>
      have hf := hM.off hd hl
      dsimp only
      refine (Update_off T M A.length me d s h n e f hd1 hd0 hd w hM.blk hM.map (by have := hM.len; omega) hf).mono ?_
      intro r w' hr
      by_cases h8 : 8 ≤ A.length
      · rw [if_pos h8] at hr ⊢
        obtain ⟨rfl, hb'⟩ := hr
        exact ⟨rfl, hold _ hb'⟩
      · rw [if_neg h8] at hr ⊢
        obtain ⟨rfl, hL', hm', hg'⟩ := hr
        rw [show (f (newR d s h n e).dest).isSome = false by rw [show (newR d s h n e).dest = d from rfl, hf]; rfl, if_neg (by simp)] at hm'
        have hn' := lineOf_none.1 hl
        refine ⟨rfl, Tab.fresh (A' := insL A (newR d s h n e)) hM hS (newR_ok hd hs hh hn he) rfl hL' (by rw [insL_length]; exact hm') hg' (fun z hz => ?_) (insL_mem.2 (.inl rfl)) (fun z hz _ => insL_mem.2 (.inr hz)) (insL_asc hM.asc hl) (by rw [insL_length]; omega)⟩
        rcases insL_mem.1 hz with h1 | h1
        · exact .inl h1
        · exact .inr ⟨h1, hn' z h1⟩
end Go.Proofs.YtakaadcpaeiccabGreat
