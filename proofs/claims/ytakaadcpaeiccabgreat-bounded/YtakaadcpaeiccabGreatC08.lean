import Derived.Test.YtakaadcpaeiccabGreatC07
import Derived.Shelf.Spec.SlicesInsert
import Derived.Lib.AppendZerosOnto
import Derived.Laws.NewBlocks
import Derived.Test.YtakaadcpaeiccabGreatC03
import Derived.Sort.WalkA
import Derived.Sort.AssemblyPlain
import Derived.ProofKit
import Derived.Laws.OwnMore
import Derived.Deep.QuietTactic
import Derived.BigQuiet
import Derived.BigRegion
import Derived.BigGuard
import Derived.BigCall
import Derived.Maps.AppendAt
namespace Go.Proofs.YtakaadcpaeiccabGreat
open Go.RowKit Go.Maps

theorem MT.inB {me : Int} {T M : Nat} {f : Int → Option Nat} {g : Int → Value} {A : List Rt} {w : World} (h : MT me T M f g A w) {d : Int} {x : Rt} (hl : lineOf A d = some x) {B : Nat} (hB : f d = some B) : TIn T M f g A B := by
  obtain ⟨hx, hxd, _⟩ := h.line hl
  exact .inr (.inr ⟨x, hx, .inl (by rw [hxd]; exact hB)⟩)
theorem MT.rowB {me : Int} {T M : Nat} {f : Int → Option Nat} {g : Int → Value} {A : List Rt} {w : World} (h : MT me T M f g A w) {d : Int} {x : Rt} (hl : lineOf A d = some x) {B : Nat} (hB : f d = some B) : (g d).ownBlock ≠ some B := by
  obtain ⟨_, _, B', hB', hL, hR⟩ := h.line hl
  rw [hB] at hB'
  cases hB'
  exact row_not hR hL (fun c e => by cases e)
/-- One line has turned where it lies. -/
theorem MT.turnS {me : Int} {T M : Nat} {f : Int → Option Nat} {g : Int → Value} {A : List Rt} {w w' : World} (h : MT me T M f g A w) {S : Nat → Prop} (hS : ∀ k, TIn T M f g A k → S k) {d : Int} {x : Rt} (hl : lineOf A d = some x) {B : Nat} (hB : f d = some B) (hg : w.grownBy w' (some B))
    (F : Rt → Rt) (hFd : ∀ y, (F y).dest = y.dest) (hok : (F x).Ok) (v : Value) (hv : v.ownBlock = none ∨ v.ownBlock = (g d).ownBlock) (hx' : LnB B (F x) v w') (hr' : w'.ownsRow 0 34 1 v (F x).bef.length ((F x).bef.map encU)) :
    Tab me T S (modL A d F) w' := by
  have ht := h.turn (W' := w') hl hB F hFd hok v hx' hr' (by rcases hv with e | e; exact .inl e; exact .inr (.inl e)) (fun k hk hkB _ => hg.block k (h.lt hk) (fun e => hkB (by cases e; rfl)))
  refine ⟨M, f, _, ht.1, fun k hk => ?_⟩
  rcases ht.2 k hk with h1 | h1
  · exact hS k h1
  · rcases hv with e | e
    · rw [e] at h1; cases h1
    · obtain ⟨hx, hxd, _⟩ := h.line hl
      exact hS k (.inr (.inr ⟨x, hx, .inr (by rw [hxd, ← e]; exact h1)⟩))
def zeroR : Rt := ⟨0, 0, 0, 0, false, 0, []⟩
def useF (e : Int) (y : Rt) : Rt := if y.valid then { y with exp := max y.exp e } else y
def useL (A : List Rt) (d e : Int) : List Rt := modL A d (useF e)
theorem useF_dest (e : Int) (y : Rt) : (useF e y).dest = y.dest := by
  unfold useF
  split <;> rfl
def loseF (frm s : Int) (y : Rt) : Rt := if y.valid && (y.next == frm) then endR y s else y
theorem loseF_dest (frm s : Int) (y : Rt) : (loseF frm s y).dest = y.dest := by
  unfold loseF
  split <;> rfl
def loseL (A : List Rt) (frm d s : Int) : List Rt := modL A d (loseF frm s)
def loseB (A : List Rt) (frm d : Int) : Bool := (lineOf A d).any fun y => y.valid && (y.next == frm)
def findL (A : List Rt) (d now : Int) : Rt × Bool :=
  match lineOf A d with
  | some x => if x.valid && decide (x.exp > now) then (x, true) else (zeroR, false)
  | none => (zeroR, false)
theorem modL_id {A : List Rt} (h : Asc A) {d : Int} {f : Rt → Rt} (hf : ∀ x, lineOf A d = some x → f x = x) : modL A d f = A := by
  unfold modL
  conv => rhs; rw [← List.map_id A]
  refine List.map_congr_left fun x hx => ?_
  by_cases e : x.dest = d
  · simp only [e, if_true]
    exact hf x (by rw [← e]; exact lineOf_mem h hx)
  · simp [e]
theorem MT.later {me : Int} {T M : Nat} {f : Int → Option Nat} {g : Int → Value} {A : List Rt} {W W' : World} (h : MT me T M f g A W) (hb : Below W.heap.size W W') : MT me T M f g A W' :=
  h.kept fun k hk => hb.block k (h.lt hk)
/-- What valid hands back. -/
def validP (f : Int → Option Nat) (A : List Rt) (d : Int) : Value :=
  match lineOf A d with
  | some x => if x.valid then .pointer ((f d).map fun B => ⟨B, 0, none⟩) else .pointer none
  | none => .pointer none
theorem valid_any {me : Int} {T M : Nat} {f : Int → Option Nat} {g : Int → Value} {A : List Rt} {w : World} (h : MT me T M f g A w) {d : Int} (hd : U32 d) :
    Calls Tryz.prog 116 #[.pointer (some ⟨T, 0, none⟩), .int .u32 d] w fun e w' => e = .returned (validP f A d) ∧ w' = w := by
  cases hl : lineOf A d with
  | none =>
    have := valid_none T M A.length me f d hd (h.off hd hl) w h.blk h.map
    unfold validP
    rw [hl]
    exact this
  | some x =>
    obtain ⟨hx, hxd, B, hB, hL, _⟩ := h.line hl
    have := valid_some T M A.length B me f d hd hB x (g d) w h.blk h.map hL
    unfold validP
    rw [hl, hB]
    refine this.mono ?_
    rintro e w' ⟨rfl, rfl⟩
    refine ⟨?_, rfl⟩
    by_cases hxv : x.valid = true <;> simp [hxv]
theorem u64_max {a b : Int} (h : U64 a) (h' : U64 b) : U64 (max a b) := by
  unfold U64 at *
  omega

set_option maxRecDepth 100000 in
set_option maxHeartbeats 2000000 in
theorem Use_line (T : Nat) (d ex : Int) (B : Nat) (x : Rt) (v : Value) (w : World) (hv : Calls Tryz.prog 116 #[.pointer (some ⟨T, 0, none⟩), .int .u32 d] w fun e w' => e = .returned (.pointer (some ⟨B, 0, none⟩)) ∧ w' = w) (h : LnB B x v w) :
    Calls Tryz.prog 81 #[.pointer (some ⟨T, 0, none⟩), .int .u32 d, .int .u64 ex] w fun e w' => e = .returned (.tuple #[]) ∧ LnB B { x with exp := max x.exp ex } v w' ∧ w.grownBy w' (some B) := by
  obtain ⟨c0, c1, c2, c3, c4, c5, c6⟩ := h.cell
  have hf := h.free
  have h1 : Hid (∀ y : Int, y = max x.exp ex → LnB B { x with exp := max x.exp ex } v (w.setCell ⟨B, 5, none⟩ (.int .u64 y))) := by
    rintro y rfl
    exact h.set5 _
  have hg : ∀ u, w.grownBy (w.setCell ⟨B, 5, none⟩ u) (some B) := fun u => grown_cellOf (grown_self _ _) 5 _
  have HV := (show Hid _ from hv)
  clear hv
  go_enter Tryz.func81, Tryz.ntmps81
  go_wp2_with fail
  refine Calls.mono HV.out ?_
  rintro e w1 ⟨rfl, rfl⟩
  clear HV
  go_wp2
  all_goals
    go_returns
    exact ⟨rfl, h1.out _ (by omega), hg _⟩
set_option maxRecDepth 100000 in
set_option maxHeartbeats 2000000 in
theorem Use_no (T : Nat) (d ex : Int) (w : World) (hv : Calls Tryz.prog 116 #[.pointer (some ⟨T, 0, none⟩), .int .u32 d] w fun e w' => e = .returned (.pointer none) ∧ w' = w) :
    Calls Tryz.prog 81 #[.pointer (some ⟨T, 0, none⟩), .int .u32 d, .int .u64 ex] w fun e w' => e = .returned (.tuple #[]) ∧ w' = w := by
  have HV := (show Hid _ from hv)
  clear hv
  go_enter Tryz.func81, Tryz.ntmps81
  go_wp2_with fail
  refine Calls.mono HV.out ?_
  rintro e w1 ⟨rfl, rfl⟩
  clear HV
  go_wp2
  go_returns
  exact ⟨rfl, rfl⟩
theorem Use_any (me : Int) (T : Nat) (S : Nat → Prop) (A : List Rt) (d ex : Int) (hd : U32 d) (he : U64 ex) (w : World) (h : Tab me T S A w) :
    Calls Tryz.prog 81 #[.pointer (some ⟨T, 0, none⟩), .int .u32 d, .int .u64 ex] w fun e w' => e = .returned (.tuple #[]) ∧ Tab me T S (useL A d ex) w' ∧ Fx S w w' := by
  obtain ⟨M, f, g, hM, hS⟩ := h
  have hv := valid_any hM hd
  unfold validP at hv
  cases hl : lineOf A d with
  | none =>
    rw [hl] at hv
    refine (Use_no T d ex w hv).mono ?_
    rintro e w' ⟨rfl, rfl⟩
    refine ⟨rfl, ⟨M, f, g, ?_, ?_⟩, Fx.refl _ _⟩
    · unfold useL; rw [modL_none hl]; exact hM
    · unfold useL; rw [modL_none hl]; exact hS
  | some x =>
    rw [hl] at hv
    obtain ⟨hx, hxd, B, hB, hL, hR⟩ := hM.line hl
    rw [hB] at hv
    cases hxv : x.valid with
    | false =>
      simp only [hxv] at hv
      refine (Use_no T d ex w hv).mono ?_
      rintro e w' ⟨rfl, rfl⟩
      have hid : useL A d ex = A := modL_id hM.asc fun y hy => by
        rw [hl] at hy
        cases hy
        simp [useF, hxv]
      rw [hid]
      exact ⟨rfl, ⟨M, f, g, hM, hS⟩, Fx.refl _ _⟩
    | true =>
      simp only [hxv, if_true, Option.map_some] at hv
      refine (Use_line T d ex B x (g d) w hv hL).mono ?_
      rintro e w' ⟨rfl, hL', hg⟩
      have hok := hM.ok x hx
      have hF : useF ex x = { x with exp := max x.exp ex } := if_pos hxv
      refine ⟨rfl, hM.turnS hS (w' := w') hl hB hg (useF ex) (useF_dest ex) ?_ (g d) (.inr rfl) ?_ ?_, Fx.grown hg (fun k e => by cases e; exact hS _ (hM.inB hl hB))⟩
      · rw [hF]
        exact ⟨hok.dest, hok.seq, hok.hops, hok.next, u64_max hok.exp he, hok.befs, hok.bef, hok.asc⟩
      · rw [hF]
        exact hL'
      · rw [hF]
        exact row_at hR (fun k hk => hg.block k (hR.lt k hk).2 (fun e => hM.rowB hl hB (by rw [hk, e])))

set_option maxRecDepth 100000 in
set_option maxHeartbeats 2000000 in
theorem Lose_line (T : Nat) (frm d s : Int) (B : Nat) (x : Rt) (v : Value) (w : World) (hv : Calls Tryz.prog 116 #[.pointer (some ⟨T, 0, none⟩), .int .u32 d] (w.alloc (.cells #[.int .u32 d, .int .u32 s] 237)) fun e w' => e = .returned (.pointer (some ⟨B, 0, none⟩)) ∧ w' = (w.alloc (.cells #[.int .u32 d, .int .u32 s] 237))) (h : LnB B x v w) :
    Calls Tryz.prog 168 #[.pointer (some ⟨T, 0, none⟩), .int .u32 frm, .agg #[.int .u32 d, .int .u32 s]] w fun e w' => e = .returned (.bool (x.next == frm)) ∧ (if x.next == frm then LnB B (endR x s) (.slice none 0 0) w' ∧ w.grownBy w' (some B) else Below w.heap.size w w') := by
  have hb : Below w.heap.size w (w.alloc (.cells #[.int .u32 d, .int .u32 s] 237)) := (Below.refl _ _).alloc (Nat.le_refl _) _
  have hL := h.later hb
  obtain ⟨c0, c1, c2, c3, c4, c5, c6⟩ := hL.cell
  have HV := (show Hid _ from hv)
  clear hv
  cases hq : (x.next == frm)
  · go_enter Tryz.func168, Tryz.ntmps168
    go_wp2_with fail
    refine Calls.mono HV.out ?_
    rintro e w1 ⟨rfl, rfl⟩
    clear HV
    go_wp2
    go_ret
    exact ⟨rfl, by simpa using hb⟩
  · go_enter Tryz.func168, Tryz.ntmps168
    go_wp2_with fail
    refine Calls.mono HV.out ?_
    rintro e w1 ⟨rfl, rfl⟩
    clear HV
    go_wp2_with fail
    refine (end_any B x v s _ hL).mono ?_
    rintro e w2 ⟨rfl, hL2, hg2⟩
    clear c0 c1 c2 c3 c4 c5 c6 hL
    have hg : w.grownBy w2 (some B) := ⟨hg2.os, hg2.tape, hg2.output, Nat.le_trans hb.size hg2.size, fun k hk hn => (hg2.block k (Nat.lt_of_lt_of_le hk hb.size) hn).trans (hb.block k hk)⟩
    clear hb hg2
    go_wp2
    go_ret
    exact ⟨rfl, by simpa using ⟨hL2, hg⟩⟩
set_option maxRecDepth 100000 in
set_option maxHeartbeats 2000000 in
theorem Lose_no (T : Nat) (frm d s : Int) (w : World) (hv : Calls Tryz.prog 116 #[.pointer (some ⟨T, 0, none⟩), .int .u32 d] (w.alloc (.cells #[.int .u32 d, .int .u32 s] 237)) fun e w' => e = .returned (.pointer none) ∧ w' = (w.alloc (.cells #[.int .u32 d, .int .u32 s] 237))) :
    Calls Tryz.prog 168 #[.pointer (some ⟨T, 0, none⟩), .int .u32 frm, .agg #[.int .u32 d, .int .u32 s]] w fun e w' => e = .returned (.bool false) ∧ Below w.heap.size w w' := by
  have hb : Below w.heap.size w (w.alloc (.cells #[.int .u32 d, .int .u32 s] 237)) := (Below.refl _ _).alloc (Nat.le_refl _) _
  have HV := (show Hid _ from hv)
  clear hv
  go_enter Tryz.func168, Tryz.ntmps168
  go_wp2_with fail
  refine Calls.mono HV.out ?_
  rintro e w1 ⟨rfl, rfl⟩
  clear HV
  go_wp2
  go_ret
  exact ⟨rfl, hb⟩
theorem Lose_any (me : Int) (T : Nat) (S : Nat → Prop) (A : List Rt) (frm d s : Int) (hd : U32 d) (hs : U32 s) (w : World) (h : Tab me T S A w) :
    Calls Tryz.prog 168 #[.pointer (some ⟨T, 0, none⟩), .int .u32 frm, .agg #[.int .u32 d, .int .u32 s]] w fun e w' => e = .returned (.bool (loseB A frm d)) ∧ Tab me T S (loseL A frm d s) w' ∧ Fx S w w' := by
  obtain ⟨M, f, g, hM, hS⟩ := h
  have hb : Below w.heap.size w (w.alloc (.cells #[.int .u32 d, .int .u32 s] 237)) := (Below.refl _ _).alloc (Nat.le_refl _) _
  have hv := valid_any (hM.later hb) hd
  unfold validP at hv
  cases hl : lineOf A d with
  | none =>
    rw [hl] at hv
    refine (Lose_no T frm d s w hv).mono ?_
    rintro e w' ⟨rfl, hb'⟩
    have h1 : loseB A frm d = false := by unfold loseB; rw [hl]; rfl
    have h2 : loseL A frm d s = A := by unfold loseL; rw [modL_none hl]
    rw [h1, h2]
    exact ⟨rfl, ⟨M, f, g, hM.later hb', hS⟩, Fx.below hb'⟩
  | some x =>
    rw [hl] at hv
    obtain ⟨hx, hxd, B, hB, hL, hR⟩ := hM.line hl
    rw [hB] at hv
    cases hxv : x.valid with
    | false =>
      simp only [hxv] at hv
      refine (Lose_no T frm d s w hv).mono ?_
      rintro e w' ⟨rfl, hb'⟩
      have h1 : loseB A frm d = false := by unfold loseB; rw [hl]; simp [hxv]
      have h2 : loseL A frm d s = A := modL_id hM.asc fun y hy => by
        rw [hl] at hy
        cases hy
        simp [loseF, hxv]
      rw [h1, h2]
      exact ⟨rfl, ⟨M, f, g, hM.later hb', hS⟩, Fx.below hb'⟩
    | true =>
      simp only [hxv, if_true, Option.map_some] at hv
      refine (Lose_line T frm d s B x (g d) w hv hL).mono ?_
      rintro e w' ⟨rfl, hif⟩
      have h1 : loseB A frm d = (x.next == frm) := by unfold loseB; rw [hl]; simp [hxv]
      rw [h1]
      cases hq : (x.next == frm) with
      | false =>
        rw [hq, if_neg (by simp)] at hif
        have h2 : loseL A frm d s = A := modL_id hM.asc fun y hy => by
          rw [hl] at hy
          cases hy
          simp [loseF, hq]
        rw [h2]
        exact ⟨rfl, ⟨M, f, g, hM.later hif, hS⟩, Fx.below hif⟩
      | true =>
        rw [hq, if_pos rfl] at hif
        obtain ⟨hL', hg⟩ := hif
        have hF : loseF frm s x = endR x s := by simp [loseF, hxv, hq]
        refine ⟨rfl, hM.turnS hS (w' := w') hl hB hg (loseF frm s) (loseF_dest frm s) ?_ (.slice none 0 0) (.inl rfl) ?_ ?_, Fx.grown hg (fun k e => by cases e; exact hS _ (hM.inB hl hB))⟩
        · rw [hF]
          exact endR_ok (hM.ok x hx) hs
        · rw [hF]
          exact hL'
        · rw [hF]
          exact ⟨rfl, .inl ⟨rfl, rfl⟩⟩
end Go.Proofs.YtakaadcpaeiccabGreat

namespace Go.Proofs.YtakaadcpaeiccabGreat
open Go.RowKit Go.Maps

/-- Cells stored one behind the other into a row. -/
theorem own_setCells {base e g m cap : Nat} : ∀ (vs : List Value) (o : Nat) (xs : List Value) (W : World), W.ownsRow base e 1 (.slice (some ⟨g, 0, none⟩) m cap) m xs → o + vs.length ≤ m →
    (W.setCells g o vs).ownsRow base e 1 (.slice (some ⟨g, 0, none⟩) m cap) m (xs.take o ++ vs ++ xs.drop (o + vs.length)) ∧ W.grownBy (W.setCells g o vs) (some g)
  | [], o, xs, W, h, _ => by
    simp only [World.setCells, List.append_nil, List.length_nil, Nat.add_zero, List.take_append_drop]
    exact ⟨h, grown_self _ _⟩
  | v :: r, o, xs, W, h, hl => by
    simp only [List.length_cons] at hl
    have hx : xs.length = m := by simpa using h.1
    obtain ⟨h1, g1⟩ := h.stored o v
    obtain ⟨h2, g2⟩ := own_setCells r (o + 1) (xs.set o v) (W.setCell ⟨g, o, none⟩ v) h1 (by omega)
    refine ⟨?_, ⟨g2.os.trans g1.os, g2.tape.trans g1.tape, g2.output.trans g1.output, Nat.le_trans g1.size g2.size, fun k hk hn => (g2.block k (Nat.lt_of_lt_of_le hk g1.size) hn).trans (g1.block k hk hn)⟩⟩
    have e1 : (xs.set o v).take (o + 1) = xs.take o ++ [v] := by
      rw [List.take_succ_eq_append_getElem (by simp; omega), List.take_set_of_le (Nat.le_refl o)]
      simp
    have e2 : (xs.set o v).drop (o + 1 + r.length) = xs.drop (o + (r.length + 1)) := by
      rw [List.drop_set_of_lt (by omega), show o + 1 + r.length = o + (r.length + 1) by omega]
    rw [e1, e2] at h2
    show ((W.setCell ⟨g, o, none⟩ v).setCells g (o + 1) r).ownsRow _ _ _ _ _ _
    simpa using h2
/-- A row read one longer, where there is room. -/
theorem own_wide {base e g n cap : Nat} {W : World} {xs : List Value} (h : W.ownsRow base e 1 (.slice (some ⟨g, 0, none⟩) n cap) n xs) (hr : n + 1 ≤ cap) :
    ∃ s, W.ownsRow base e 1 (.slice (some ⟨g, 0, none⟩) (n + 1) cap) (n + 1) (xs ++ [s]) := by
  rcases h.2 with ⟨he, _⟩ | ⟨g', cap', cur, he, hb, hg, h1, h2, h3, h4⟩
  · cases he
  · cases he
    have hl : n < cur.toList.length := by rw [Array.length_toList]; omega
    refine ⟨cur.toList[n], ?_, .inr ⟨g, cap, cur, rfl, hb, hg, hr, h2, h3, ?_⟩⟩
    · have := h.1
      simp at this ⊢
      exact this
    · rw [Nat.mul_one] at h4 ⊢
      rw [List.take_succ_eq_append_getElem hl, h4]
theorem one_u (l : List Int) : ∀ u ∈ l.map encU, u.oneCell' = true := by
  intro u hu
  obtain ⟨y, _, rfl⟩ := List.mem_map.1 hu
  rfl
theorem szu : (Tryz.prog.info? 34).map (·.size) = some 1 := by kernel_rfl

set_option maxRecDepth 100000 in
set_option maxHeartbeats 4000000 in
/-- slices.Insert of one number ahead of another, where there is room: in place. -/
theorem Insert_shift (g n cap i : Nat) (cs : List Int) (x : Int) (vb : Nat) (w : World) (h : w.ownsRow 0 34 1 (.slice (some ⟨g, 0, none⟩) n cap) n (cs.map encU)) (hi : i < n) (hroom : n + 1 ≤ cap) (hv : w.heap[vb]? = some (.cells #[.int .u32 x] 34)) (hne : vb ≠ g) (hn : n ≤ 1000) (hcap : cap ≤ maxLen) :
    Calls Tryz.prog 198 #[.slice (some ⟨g, 0, none⟩) n cap, .int .i64 i, .slice (some ⟨vb, 0, none⟩) 1 1] w fun e w' => e = .returned (.slice (some ⟨g, 0, none⟩) (n + 1) cap) ∧
      w'.ownsRow 0 34 1 (.slice (some ⟨g, 0, none⟩) (n + 1) cap) (n + 1) ((cs.take i ++ x :: cs.drop i).map encU) ∧ w.grownBy w' (some g) := by
  have hcl : cs.length = n := by simpa using h.1
  obtain ⟨s, hw⟩ := own_wide h hroom
  have hdl : ((cs.drop i).map encU).length = n - i := by rw [List.length_map, List.length_drop, hcl]
  obtain ⟨h1, g1⟩ := own_setCells ((cs.drop i).map encU) (i + 1) (cs.map encU ++ [s]) w.drew hw.drew (by rw [hdl]; omega)
  obtain ⟨h2, g2⟩ := own_setCells [encU x] i _ _ h1 (by simp; omega)
  have e1 : (cs.map encU ++ [s]).drop (i + 1 + ((cs.drop i).map encU).length) = [] := List.drop_eq_nil_of_le (by simp [hcl]; omega)
  have e2 : (cs.map encU ++ [s]).take (i + 1) = (cs.map encU).take (i + 1) := by rw [List.take_append_of_le_length (by simp; omega)]
  rw [e1, List.append_nil, e2] at h1 h2
  have hfin : (((cs.map encU).take (i + 1) ++ (cs.drop i).map encU).take i ++ [encU x] ++ ((cs.map encU).take (i + 1) ++ (cs.drop i).map encU).drop (i + [encU x].length)) = (cs.take i ++ x :: cs.drop i).map encU := by
    rw [List.take_append_of_le_length (by simp; omega), List.take_take, Nat.min_eq_left (by omega)]
    rw [show i + [encU x].length = ((cs.map encU).take (i + 1)).length by simp; omega, List.drop_left]
    simp
  rw [hfin] at h2
  have hgg : w.grownBy ((w.drew.setCells g (i + 1) ((cs.drop i).map encU)).setCells g i [encU x]) (some g) :=
    ⟨g2.os.trans g1.os, g2.tape.trans g1.tape, g2.output.trans g1.output, Nat.le_trans g1.size g2.size, fun k hk hn => (g2.block k (Nat.lt_of_lt_of_le hk g1.size) hn).trans (g1.block k hk hn)⟩
  have hgl := (h.lt g rfl).2
  have hsb : ∃ kB, kB ≠ 0 ∧ w.shape? g = some (34, kB) := by
    rcases h.2 with ⟨he, _⟩ | ⟨g', cap', cur, he, hb, hg, q1, q2, q3, q4⟩
    · cases he
    · cases he
      exact ⟨cur.size, by omega, by simp [World.shape?, hg]⟩
  obtain ⟨kB, hkB, hsb⟩ := hsb
  have hsa : w.shape? vb = some (34, 1) := by simp [World.shape?, hv]
  have hfa : ∀ j, w.frozen? ⟨vb, j, none⟩ = false := fun j => by simp [World.frozen?, hv]
  have hzu : ∀ w, (Go.sizeOf 34).run Tryz.prog w = .ok 1 w := fun w => by kernel_rfl
  have hov : ∀ lb cb, (callFunc 215 #[.slice (some ⟨vb, 0, none⟩) 1 1, .slice (some ⟨g, i + 1, none⟩) lb cb]).run Tryz.prog w = .ok (.value (.bool false)) w := fun lb cb => by
    rw [run_callFunc_extern Tryz.func215 (by kernel_rfl) (by kernel_rfl) (by kernel_rfl) (e := Extern.SlicesOverlaps.overlaps #[36, 36] #[4]) (by kernel_rfl),
      Lib.run_overlaps_apart w 36 4 34 Tryz.underlying36 1 hzu ⟨vb, 0, none⟩ ⟨g, i + 1, none⟩ 1 1 lb cb hne 34 34 1 kB hsa hsb hkB (hfa 0) (hfa 1)]
    rfl
  have hrd := hw.drew
  have hcp1 : ∀ ty dc sc, (Builtin.copy_ #[36, 36] ty #[.slice (some ⟨g, i + 1, none⟩) (n - i) dc, .slice (some ⟨g, i, none⟩) (n + 1 - i) sc]).run Tryz.prog w.drew = .ok (goInt ((cs.drop i).map encU).length) (w.drew.setCells g (i + 1) ((cs.drop i).map encU)) := fun ty dc sc =>
    run_copy_cells w.drew _ _ ty 34 g (i + 1) (n - i) dc ⟨g, i, none⟩ (n + 1 - i) sc ((cs.drop i).map encU) Tryz.underlying36 szu (by rw [hdl]; simp only [Nat.min_def]; split <;> omega)
      (fun j v hj => by
        rw [Addr.add_lit]
        have hjl := (List.getElem?_eq_some_iff.1 hj).1
        rw [hdl] at hjl
        refine (h.drew.cellAt (i + j) (by omega)).trans ?_
        rw [List.map_drop, List.getElem?_drop] at hj
        exact hj)
      (fun j hj => by
        rw [hdl] at hj
        have := hrd.cellAt (i + 1 + j) (by omega)
        rw [this, List.getElem?_eq_getElem (by simp [hcl]; omega)]
        rfl)
      (fun j _ => hrd.frozenAt _) (one_u _)
  have hcp2 : ∀ ty dc, (Builtin.copy_ #[36, 36] ty #[.slice (some ⟨g, i, none⟩) (n + 1 - i) dc, .slice (some ⟨vb, 0, none⟩) 1 1]).run Tryz.prog (w.drew.setCells g (i + 1) ((cs.drop i).map encU)) = .ok (goInt [encU x].length) ((w.drew.setCells g (i + 1) ((cs.drop i).map encU)).setCells g i [encU x]) := fun ty dc =>
    run_copy_cells _ _ _ ty 34 g i (n + 1 - i) dc ⟨vb, 0, none⟩ 1 1 [encU x] Tryz.underlying36 szu (by simp only [List.length_cons, List.length_nil, Nat.min_def]; split <;> omega)
      (fun j v hj => by
        rw [Addr.add_lit, Nat.zero_add, World.cell?_setCells_out g _ _ _ _ (fun e _ => absurd e hne)]
        match j, hj with
        | 0, hj =>
          exact (cell_of_row w.drew vb 0 _ _ _ hv).trans hj
        | j + 1, hj => simp at hj)
      (fun j hj => by
        have := h1.cellAt (i + j) (by simp at hj; omega)
        rw [this, List.getElem?_eq_getElem (by simp at hj ⊢; omega)]
        rfl)
      (fun j _ => h1.frozenAt _) (by simp [Value.oneCell'])
  have hz2 : ((i : Int) == (n : Int)) = false := by simp; omega
  have hz3 : decide ((cap : Int) < (n : Int) + 1) = false := decide_eq_false (by omega)
  have hw1 : IntKind.i64.wrap ((i : Int) + 1) = (i : Int) + 1 := by rw [IntKind.wrap_i64]; omega
  have hb1 : (0 : Int) ≤ (i : Int) + 1 := by omega
  have htn : ((i : Int) + 1).toNat = i + 1 := by omega
  have hb2 : ¬ (cap = i + 1) := by omega
  have hb3 : (i : Int) ≤ (n : Int) + 1 := by omega
  have hb4 : ¬ (cap = i) := by omega
  have hin : i ≤ n := by omega
  have hb5 : (n : Int) + 1 ≤ (cap : Int) := by omega
  have hc63 : cap ≤ 9223372036854775807 := by unfold maxLen at hcap; omega
  clear h h1 hw hdl g1 g2 e1 e2 hrd hfin hsb hsa hfa hv
  generalize hW2 : (w.drew.setCells g (i + 1) ((cs.drop i).map encU)).setCells g i [encU x] = W2 at h2 hgg hcp2
  generalize hW1 : w.drew.setCells g (i + 1) ((cs.drop i).map encU) = W1 at hcp1 hcp2
  clear hW1 hW2
  go_enter Tryz.func198, Tryz.ntmps198
  go_wp2_with (simp only [hov])
  go_region_law (refine step_copy_runI rfl _ _ 36 36 rfl _ _ (by simp [Act.eval, Act.put]) (by simp [Act.eval, Act.put]) (hcp1 _ _ _) ?_)
  go_wp2_with (at_builtin; refine wpList_copy_runI _ rfl _ _ 36 36 rfl _ _ rfl rfl (hcp2 _ _) ?_)
  go_ret
  exact ⟨rfl, h2, hgg⟩
end Go.Proofs.YtakaadcpaeiccabGreat

namespace Go.Proofs.YtakaadcpaeiccabGreat
open Go.RowKit Go.Maps

set_option maxRecDepth 100000 in
set_option maxHeartbeats 4000000 in
/-- slices.Insert of one number at the end. -/
theorem Insert_end (v : Value) (n : Nat) (cs : List Int) (x : Int) (vb : Nat) (w : World) (h : w.ownsRow 0 34 1 v n (cs.map encU)) (hv : w.heap[vb]? = some (.cells #[.int .u32 x] 34)) (hn : n ≤ 1000) :
    Calls Tryz.prog 198 #[v, .int .i64 n, .slice (some ⟨vb, 0, none⟩) 1 1] w fun e w' => ∃ v', e = .returned v' ∧
      w'.ownsRow 0 34 1 v' (n + 1) ((cs ++ [x]).map encU) ∧ w.grownBy w' v.ownBlock ∧ (v'.ownBlock = v.ownBlock ∨ v'.ownBlock = some w.heap.size) := by
  obtain ⟨i0, hi, hz0, hz1, hz2⟩ := info_parts info_u32
  obtain ⟨ao, c, rfl, _⟩ := row_form h
  have hnc : n ≤ c := by
    rcases h.2 with ⟨he, h0⟩ | ⟨_, _, _, he, _, _, k3, _⟩
    · cases he; omega
    · cases he; exact k3
  have hsl : ∃ u, ∀ W, (Instr.slice 36 (.slice ao n c) (some (.int .i64 n)) none none).run Tryz.prog W = .ok u W := by
    have ht : Tryz.prog.underlying 36 = some (.slice (Tryz.prog.elem 36)) := by simp [Program.elem, Tryz.underlying36]
    have hz : ∀ w, (Go.sizeOf (Tryz.prog.elem 36)).run Tryz.prog w = .ok 1 w := by
      intro w
      simp [go_sem, Program.elem, Tryz.underlying36]
    rcases h.2 with ⟨he, rfl⟩ | ⟨g, cap, _, he, _, _, k3, _⟩
    · cases he
      exact ⟨.slice none 0 0, fun W => by kernel_rfl⟩
    · cases he
      exact ⟨_, fun W => by rw [run_slice_l W 36 _ _ _ ht .i64 _ (by omega) (by omega), hz]; rfl⟩
  obtain ⟨u, hsl⟩ := hsl
  have hq : ((n : Int) == (n : Int)) = true := by simp
  have hcx : ∀ (j : Nat) (u : Value), [encU x][j]? = some u → w.cell? ((⟨vb, 0, none⟩ : Addr).add j) = some u := by
    intro j u hj
    rw [Addr.add_lit, Nat.zero_add]
    match j, hj with
    | 0, hj => exact (cell_of_row w vb 0 _ _ _ hv).trans hj
    | j + 1, hj => simp at hj
  clear hv
  go_enter Tryz.func198, Tryz.ntmps198
  go_wp2_with (at_builtin; refine wpList_append_own_at _ rfl _ _ 36 rfl 0 34 i0 (.int .u32 0) 1 4 Tryz.underlying36 hi hz0 hz1 hz2 rfl (by decide) (.slice ao n c) n (cs.map encU) rfl h ⟨vb, 0, none⟩ 1 1 [encU x] rfl rfl hcx (by simp [Value.oneCell']) ?c1 ?c2 (Nat.zero_le _) ?_)
  case c1 => unfold maxLen; omega
  case c2 => omega
  intro v' w' ho hg _ hb
  clear hsl h
  go_wp2
  go_ret
  exact ⟨v', rfl, by simpa using ho, hg, hb⟩

set_option maxRecDepth 100000 in
set_option maxHeartbeats 4000000 in
/-- slices.Insert of one number ahead of another, where there is no room: a new row. -/
theorem Insert_grow (g n cap i : Nat) (cs : List Int) (x : Int) (vb : Nat) (w : World) (h : w.ownsRow 0 34 1 (.slice (some ⟨g, 0, none⟩) n cap) n (cs.map encU)) (hi : i < n) (hroom : cap < n + 1) (hv : w.heap[vb]? = some (.cells #[.int .u32 x] 34)) (hn : n ≤ 1000) (hnc : n ≤ cap) :
    Calls Tryz.prog 198 #[.slice (some ⟨g, 0, none⟩) n cap, .int .i64 i, .slice (some ⟨vb, 0, none⟩) 1 1] w fun e w' => ∃ G, e = .returned (.slice (some ⟨w.heap.size, 0, none⟩) (n + 1) G) ∧
      w'.ownsRow 0 34 1 (.slice (some ⟨w.heap.size, 0, none⟩) (n + 1) G) (n + 1) ((cs.take i ++ x :: cs.drop i).map encU) ∧ Below w.heap.size w w' := by
  obtain ⟨i0, hi0, hz0, hzs, hzb⟩ := info_parts info_u32
  have hcl : cs.length = n := by simpa using h.1
  have hgl := (h.lt g rfl).2
  have hvl : vb < w.heap.size := (Array.getElem?_eq_some_iff.1 hv).1
  have hik : i + (n + 1 - i) = n + 1 := by omega
  have hold : (Builtin.firstCells i0.size i (.slice (some ⟨g, 0, none⟩) i cap)).run Tryz.prog w.drew = .ok ((cs.take i).map encU).toArray w.drew := by
    rw [hzs]
    refine run_firstCells_some w.drew 1 i ⟨g, 0, none⟩ i cap _ (by simp; omega) (fun j v hj => ?_)
    rw [Addr.add_lit, Nat.zero_add]
    rw [List.map_take, List.getElem?_take] at hj
    split at hj
    · exact (h.drew.cellAt j (by omega)).trans hj
    · cases hj
  have hrz : ∀ ty, (Builtin.append_ #[36, 3] ty #[.slice (some ⟨g, 0, none⟩) i cap, .int .i64 ((n : Int) + 1 - (i : Int))]).run Tryz.prog w = .ok (.slice (some ⟨w.heap.size, 0, none⟩) (n + 1) (grownCap w (n + 1) cap 34))
      (w.drew.alloc (.cells (((cs.take i).map encU).toArray ++ Builtin.zeroCells (Value.int .u32 0).cells (n + 1 - i) ++ Builtin.zeroCells (Value.int .u32 0).cells (grownCap w (n + 1) cap 34 - (n + 1))) 34)) := fun ty => by
    have h1 := Lib.run_append_grow_zeros w 36 3 ty 34 i0 _ .i64 .i64 Tryz.underlying36 Tryz.underlying3 hi0 hz0 (some ⟨g, 0, none⟩) i cap _ hold (n + 1 - i) (by omega) (by omega) (by omega) (by omega) (by rw [hzb]; omega) (by rw [hzb, hik]; exact growslice_fits hroom (by omega))
    rw [hik] at h1
    rw [show (n : Int) + 1 - (i : Int) = ((n + 1 - i : Nat) : Int) by omega]
    exact h1
  have hGn : n + 1 ≤ grownCap w (n + 1) cap 34 := grownCap_ge w _ _ _
  have hG63 : grownCap w (n + 1) cap 34 ≤ maxLen := grownCap_le_maxLen w (n + 1) cap 34 (by unfold maxLen; omega)
  generalize grownCap w (n + 1) cap 34 = G at hrz hGn hG63
  have hzl : ∀ k, (Builtin.zeroCells (Value.int .u32 0).cells k).size = k := fun k => by simp [Builtin.zeroCells, Value.cells]
  obtain ⟨ROW, hROW⟩ : ∃ ROW : Array Value, ROW = ((cs.take i).map encU).toArray ++ Builtin.zeroCells (Value.int .u32 0).cells (n + 1 - i) ++ Builtin.zeroCells (Value.int .u32 0).cells (G - (n + 1)) := ⟨_, rfl⟩
  rw [← hROW] at hrz
  have hsz : ROW.size = G * 1 := by
    rw [hROW]
    simp only [Array.size_append, hzl, List.size_toArray, List.length_map, List.length_take]
    omega
  have htk : ROW.toList.take ((n + 1) * 1) = (cs.take i).map encU ++ (Builtin.zeroCells (Value.int .u32 0).cells (n + 1 - i)).toList := by
    rw [hROW, Array.toList_append, Array.toList_append, List.take_append_of_le_length (by simp [hzl]; omega), List.take_of_length_le (by simp [hzl]; omega)]
  have hl0 : ((cs.take i).map encU ++ (Builtin.zeroCells (Value.int .u32 0).cells (n + 1 - i)).toList).length = n + 1 := by simp [hzl]; omega
  obtain ⟨WA, hWA⟩ : ∃ WA, WA = (w.alloc (.cells ROW 34)).drew := ⟨_, rfl⟩
  have h0 : WA.ownsRow 0 34 1 (.slice (some ⟨w.heap.size, 0, none⟩) (n + 1) G) (n + 1) ((cs.take i).map encU ++ (Builtin.zeroCells (Value.int .u32 0).cells (n + 1 - i)).toList) := by
    rw [hWA]
    exact ⟨by rw [hl0, Nat.mul_one], .inr ⟨w.heap.size, G, ROW, rfl, Nat.zero_le _, heap_alloc_new w _, hGn, hG63, hsz, htk⟩⟩
  have hbA : Below w.heap.size w WA := by
    rw [hWA]
    exact ((Below.refl _ _).alloc (Nat.le_refl _) _).drew
  obtain ⟨h1, g1⟩ := own_setCells [encU x] i _ _ h0 (by simp; omega)
  obtain ⟨WB, hWB⟩ : ∃ WB, WB = (WA.setCells w.heap.size i [encU x]).drew := ⟨_, rfl⟩
  have h1' := h1.drew
  rw [← hWB] at h1'
  have hbB : Below w.heap.size w WB := by
    rw [hWB]
    exact (hbA.grown g1 hbA.size (fun k e => by cases e; exact Nat.le_refl _)).drew
  have hdl : ((cs.drop i).map encU).length = n - i := by rw [List.length_map, List.length_drop, hcl]
  obtain ⟨h2, g2⟩ := own_setCells ((cs.drop i).map encU) (i + 1) _ _ h1' (by rw [hdl]; omega)
  have hbC := hbB.grown g2 hbB.size (fun k e => by cases e; exact Nat.le_refl _)
  have hfin : ∀ R0 : List Value, R0 = (cs.take i).map encU ++ (Builtin.zeroCells (Value.int .u32 0).cells (n + 1 - i)).toList → R0.length = n + 1 →
      (R0.take i ++ [encU x] ++ R0.drop (i + [encU x].length)).take (i + 1) ++ (cs.drop i).map encU ++ (R0.take i ++ [encU x] ++ R0.drop (i + [encU x].length)).drop (i + 1 + ((cs.drop i).map encU).length) = (cs.take i ++ x :: cs.drop i).map encU := by
    intro R0 hR0 hRl
    have t1 : R0.take i = (cs.take i).map encU := by
      rw [hR0, List.take_append_of_le_length (by simp; omega), List.take_of_length_le (by simp; omega)]
    have t2 : (R0.take i ++ [encU x] ++ R0.drop (i + [encU x].length)).drop (i + 1 + ((cs.drop i).map encU).length) = [] := List.drop_eq_nil_of_le (by simp [hRl, hcl]; omega)
    have t3 : (R0.take i ++ [encU x] ++ R0.drop (i + [encU x].length)).take (i + 1) = R0.take i ++ [encU x] := by
      rw [List.take_append_of_le_length (by simp [hRl]; omega), List.take_of_length_le (by simp; omega)]
    rw [t2, t3, t1]
    simp
  rw [hfin _ rfl hl0] at h2
  have hcpA : ∀ ty dc, (Builtin.copy_ #[36, 36] ty #[.slice (some ⟨w.heap.size, i, none⟩) (n + 1 - i) dc, .slice (some ⟨vb, 0, none⟩) 1 1]).run Tryz.prog WA = .ok (goInt [encU x].length) (WA.setCells w.heap.size i [encU x]) := fun ty dc =>
    run_copy_cells _ _ _ ty 34 w.heap.size i (n + 1 - i) dc ⟨vb, 0, none⟩ 1 1 [encU x] Tryz.underlying36 szu (by simp only [List.length_cons, List.length_nil, Nat.min_def]; split <;> omega)
      (fun j v hj => by
        rw [Addr.add_lit, Nat.zero_add]
        match j, hj with
        | 0, hj => exact (cell_of_row WA vb 0 _ _ _ ((hbA.block vb hvl).trans hv)).trans hj
        | j + 1, hj => simp at hj)
      (fun j hj => by
        rw [h0.cellAt (i + j) (by simp at hj; omega), List.getElem?_eq_getElem (by rw [hl0]; simp at hj; omega)]
        rfl)
      (fun j _ => h0.frozenAt _) (by simp [Value.oneCell'])
  have hcpB : ∀ ty dc sc, (Builtin.copy_ #[36, 36] ty #[.slice (some ⟨w.heap.size, i + 1, none⟩) (n - i) dc, .slice (some ⟨g, i, none⟩) (n - i) sc]).run Tryz.prog WB = .ok (goInt ((cs.drop i).map encU).length) (WB.setCells w.heap.size (i + 1) ((cs.drop i).map encU)) := fun ty dc sc =>
    run_copy_cells _ _ _ ty 34 w.heap.size (i + 1) (n - i) dc ⟨g, i, none⟩ (n - i) sc ((cs.drop i).map encU) Tryz.underlying36 szu (by rw [hdl]; simp only [Nat.min_def]; split <;> omega)
      (fun j v hj => by
        rw [Addr.add_lit]
        have hjl := (List.getElem?_eq_some_iff.1 hj).1
        rw [hdl] at hjl
        refine ((step_append_kept h hbB).cellAt (i + j) (by omega)).trans ?_
        rw [List.map_drop, List.getElem?_drop] at hj
        exact hj)
      (fun j hj => by
        rw [hdl] at hj
        rw [h1'.cellAt (i + 1 + j) (by omega), List.getElem?_eq_getElem (by have := h1'.1; omega)]
        rfl)
      (fun j _ => h1'.frozenAt _) (one_u _)
  have hz2 : ((i : Int) == (n : Int)) = false := by simp; omega
  have hz3 : decide ((cap : Int) < (n : Int) + 1) = true := decide_eq_true (by omega)
  have hw1 : IntKind.i64.wrap ((i : Int) + 1) = (i : Int) + 1 := by rw [IntKind.wrap_i64]; omega
  have hb1 : (0 : Int) ≤ (i : Int) + 1 := by omega
  have htn : ((i : Int) + 1).toNat = i + 1 := by omega
  have hin : i ≤ n := by omega
  have hb3 : (i : Int) ≤ (n : Int) := by omega
  have hb5 : (i : Int) ≤ (n : Int) + 1 := by omega
  have hGi : ¬ (G = i) := by omega
  have hGim : ¬ (G = i + 1) := by omega
  have hci : ¬ (cap = i) := by omega
  have hic : (i : Int) ≤ (cap : Int) := by omega
  have hrz' : ∀ ty, (Builtin.append_ #[36, 3] ty #[.slice (some ⟨g, 0, none⟩) i cap, .int .i64 ((n : Int) + 1 - (i : Int))]).run Tryz.prog w = .ok (.slice (some ⟨w.heap.size, 0, none⟩) (n + 1) G) WA := fun ty => by rw [hWA]; exact hrz ty
  clear hrz hold h h0 hbA h1 g1 h1' hbB g2 hfin hdl hv hl0 htk hsz hROW hzl hcl hik hi0 hz0 hzs hzb
  have hcpB' : ∀ ty dc sc, (Builtin.copy_ #[36, 36] ty #[.slice (some ⟨w.heap.size, i + 1, none⟩) (n - i) dc, .slice (some ⟨g, i, none⟩) (n - i) sc]).run Tryz.prog (WA.setCells w.heap.size i [encU x]).drew = .ok (goInt ((cs.drop i).map encU).length) (WB.setCells w.heap.size (i + 1) ((cs.drop i).map encU)) := by
    rw [← hWB]
    exact hcpB
  generalize WB.setCells w.heap.size (i + 1) ((cs.drop i).map encU) = WC at h2 hbC hcpB'
  clear hWA hWB hcpB
  go_enter Tryz.func198, Tryz.ntmps198
  go_wp2_with (first
    | (at_builtin; refine Lib.wpList_append_run _ rfl _ _ _ _ rfl _ _ rfl rfl _ _ (hrz' _) ?_)
    | (at_builtin; refine wpList_copy_runI _ rfl _ _ 36 36 rfl _ _ rfl rfl (hcpA _ _) ?_))
  go_region_law (refine step_copy_runI rfl _ _ 36 36 rfl (.slice (some ⟨w.heap.size, i + 1, none⟩) (n - i) (G - (i + 1))) (.slice (some ⟨g, i, none⟩) (n - i) (cap - i)) (by simp [Act.eval, Act.put]) (by simp [Act.eval, Act.put]) (hcpB' 3 (G - (i + 1)) (cap - i)) ?_)
  go_wp2
  go_ret
  exact ⟨G, rfl, h2, hbC⟩
end Go.Proofs.YtakaadcpaeiccabGreat

namespace Go.Proofs.YtakaadcpaeiccabGreat
open Go.RowKit Go.Sort

/-- Numbers as cells. -/
def UC (d : Array Int) : List Value := d.toList.map (Value.int .u32)
theorem UC_get {d : Array Int} {j : Nat} (hj : j < d.size) : (UC d)[j]? = some (.int .u32 d[j]!) := by
  simp [UC, hj]
theorem UC_set (d : Array Int) (j : Nat) (x : Int) : (UC d).set j (.int .u32 x) = UC (d.setIfInBounds j x) := by
  simp [UC, List.map_set]
theorem swp_size (d : Array Int) (i j : Nat) : (swp d i j).size = d.size := by simp [swp]

/-- A row of numbers. -/
structure SR (base g cap n : Nat) (d : Array Int) (W : World) : Prop where
  size : d.size = n
  row : W.ownsRow base 34 1 (.slice (some ⟨g, 0, none⟩) n cap) n (UC d)
theorem SR.cell {base g cap n : Nat} {d : Array Int} {W : World} (h : SR base g cap n d W) {j : Nat} (hj : j < n) : W.cell? ⟨g, j, none⟩ = some (.int .u32 d[j]!) :=
  (h.row.cellAt j (by omega)).trans (UC_get (by rw [h.size]; exact hj))
theorem SR.free {base g cap n : Nat} {d : Array Int} {W : World} (h : SR base g cap n d W) (j : Nat) : W.frozen? ⟨g, j, none⟩ = false := h.row.frozenAt j
theorem SR.later {base g cap n : Nat} {d : Array Int} {W W' : World} (h : SR base g cap n d W) (hb : Below W.heap.size W W') : SR base g cap n d W' :=
  ⟨h.size, h.row.kept (row := none) ⟨hb.os, hb.tape, hb.output, hb.size, fun k hk _ => hb.block k hk⟩ (.inr (by simp [Value.ownBlock]))⟩
theorem SR.drewN {base g cap n : Nat} {d : Array Int} {W : World} (h : SR base g cap n d W) (q : Nat) : SR base g cap n d (W.drewN q) :=
  ⟨h.size, h.row.kept (row := none) ⟨rfl, rfl, rfl, Nat.le_refl _, fun _ _ _ => rfl⟩ (.inr (by simp [Value.ownBlock]))⟩
theorem SR.swap {base g cap n : Nat} {d : Array Int} {W : World} (h : SR base g cap n d W) (i j : Nat) :
    SR base g cap n (swp d i j) ((W.setCell ⟨g, i, none⟩ (.int .u32 d[j]!)).setCell ⟨g, j, none⟩ (.int .u32 d[i]!)) := by
  have h1 := (h.row.stored i (.int .u32 d[j]!)).1
  have h2 := (h1.stored j (.int .u32 d[i]!)).1
  rw [UC_set, UC_set] at h2
  exact ⟨by rw [swp_size]; exact h.size, h2⟩
theorem grn_st {A B : World} {g : Nat} (h : A.grownBy B (some g)) (j : Nat) (v : Value) : A.grownBy (B.setCell ⟨g, j, none⟩ v) (some g) :=
  ⟨h.os, h.tape, h.output, by simpa using h.size, fun i hi hne => (Below.heap_setCell B ⟨g, j, none⟩ v i (fun e => hne (by rw [e]))).trans (h.block i hi hne)⟩
theorem grn_rfl (A : World) (r : Option Nat) : A.grownBy A r := ⟨rfl, rfl, rfl, Nat.le_refl _, fun _ _ _ => rfl⟩
theorem grown_swap (W : World) (g i j : Nat) (u v : Value) : W.grownBy ((W.setCell ⟨g, i, none⟩ u).setCell ⟨g, j, none⟩ v) (some g) := grn_st (grn_st (grn_rfl W (some g)) i _) j _
theorem grown_dN (W : World) (q : Nat) (r : Option Nat) : W.grownBy (W.drewN q) r := ⟨rfl, rfl, rfl, Nat.le_refl _, fun _ _ _ => rfl⟩

set_option maxHeartbeats 1000000 in
theorem isNaN_any (x : Int) (w : World) : Calls Tryz.prog 204 #[.int .u32 x] w fun e w' => e = .returned (.bool false) ∧ w' = w := by
  go_enter Tryz.func204, Tryz.ntmps204
  go_wp2
  go_ret
  exact ⟨by simp, rfl⟩
set_option maxHeartbeats 1000000 in
theorem Less_any (x y : Int) (w : World) : Calls Tryz.prog 189 #[.int .u32 x, .int .u32 y] w fun e w' => e = .returned (.bool (ltInt x y)) ∧ w' = w := by
  go_enter Tryz.func189, Tryz.ntmps189
  go_wp2_with (go_at_call 204; refine (isNaN_any _ _).mono ?_; rintro e w' ⟨rfl, rfl⟩)
  go_ret
  exact ⟨rfl, rfl⟩
end Go.Proofs.YtakaadcpaeiccabGreat
