import Derived.Test.YtakaadcpaeiccabGreatC06
import Derived.Shelf.Spec.SlicesInsert
import Derived.Lib.AppendZerosOnto
import Derived.Laws.NewBlocks
import Derived.Test.YtakaadcpaeiccabGreatC03
import Derived.Sort.WalkA
import Derived.Sort.AssemblyPlain
import Derived.ProofKit
import Derived.Laws.OwnMore
import Derived.Deep.QuietTactic
import Derived.BigQuiet
import Derived.BigRegion
import Derived.BigGuard
import Derived.BigCall
import Derived.Maps.AppendAt
namespace Go.Proofs.YtakaadcpaeiccabGreat
open Go.RowKit Go.Maps

theorem src_u32 {W : World} {base : Nat} {v : Value} {n : Nat} {cs : List Int} (h : W.ownsRow base 34 1 v n (cs.map encU)) : Src Tryz.prog 1 36 v n (cs.map encU) W := by
  obtain ⟨ao, c, rfl, hH⟩ := row_form h
  exact hH.src Tryz.underlying36 c h.1 (by decide) (fun u hu => by
    obtain ⟨y, _, rfl⟩ := List.mem_map.1 hu
    rfl)

set_option maxRecDepth 100000 in
set_option maxHeartbeats 2000000 in
/-- slices.Clone: a row of its own. -/
theorem Clone_any (v : Value) (n : Nat) (cs : List Int) (hn : n ≤ 1000000) (w : World) (h : w.ownsRow 0 34 1 v n (cs.map encU)) :
    Calls Tryz.prog 135 #[v] w fun e w' => ∃ v', e = .returned v' ∧ w'.ownsRow w.heap.size 34 1 v' n (cs.map encU) ∧ Below w.heap.size w w' := by
  obtain ⟨i0, hi, hz0, hz1, hz2⟩ := info_parts info_u32
  have hsrc := src_u32 h
  have hbe : Below w.heap.size w (w.alloc (.cells #[] 34)) := (Below.refl _ _).alloc (Nat.le_refl _) _
  have hoe : (w.alloc (.cells #[] 34)).ownsRow w.heap.size 34 1 (.slice (some ⟨w.heap.size, 0, none⟩) 0 0) 0 [] :=
    ⟨rfl, .inr ⟨w.heap.size, 0, _, rfl, Nat.le_refl _, heap_alloc_new w _, Nat.le_refl _, by decide, rfl, rfl⟩⟩
  have hne : w.heap.size ≤ (w.alloc (.cells #[] 34)).heap.size := by simp
  have hsrc' : Src Tryz.prog 1 36 v n (cs.map encU) (w.alloc (.cells #[] 34)) := src_u32 (step_append_kept h hbe)
  rcases h.2 with ⟨rfl, rfl⟩ | ⟨g, cap, cur, rfl, rest⟩
  · have hq := fun W => Lib.run_eql_slice_nil (P := Tryz.prog) W 36 34 none 0 0 0 0 Tryz.underlying36
    simp only [Option.isNone_none] at hq
    have hcs : cs.map encU = [] := List.eq_nil_of_length_eq_zero h.1
    clear hsrc hbe hoe hne hsrc'
    go_enter Tryz.func135, Tryz.ntmps135
    go_wp2
    go_ret
    exact ⟨_, rfl, ⟨h.1, .inl ⟨rfl, rfl⟩⟩, Below.refl _ _⟩
  · have hq := fun W => Lib.run_eql_slice_nil (P := Tryz.prog) W 36 34 (some ⟨g, 0, none⟩) n cap 0 0 Tryz.underlying36
    simp only [Option.isNone_some] at hq
    clear rest hsrc
    go_enter Tryz.func135, Tryz.ntmps135
    go_wp2_with (at_builtin; refine wpList_append_own_src _ rfl _ _ 36 36 rfl w.heap.size 34 i0 (.int .u32 0) 1 4 Tryz.underlying36 hi hz0 hz1 hz2 rfl (.slice (some ⟨w.heap.size, 0, none⟩) 0 0) 0 [] rfl hoe (by simp) (.slice (some ⟨g, 0, none⟩) n cap) n (cs.map encU) rfl hsrc' ?c1 ?c2 hne ?_)
    case c1 => unfold maxLen; omega
    case c2 => omega
    intro v7 W7 ho7 hg7 _
    have hb7 := hbe.grown hg7 hne (fun k hk => (hoe.lt k hk).1)
    clear hq hsrc' hbe hoe hne hg7
    go_wp2
    go_ret
    exact ⟨v7, rfl, by simpa using ho7, hb7⟩

/-- A line stored whole. -/
@[reducible] def store7 (W : World) (B : Nat) (x : Rt) (v : Value) : World := ((((((W.setCell ⟨B, 0, none⟩ (.int .u32 x.dest)).setCell ⟨B, 1, none⟩ (.int .u32 x.seq)).setCell ⟨B, 2, none⟩ (.int .i64 x.hops)).setCell ⟨B, 3, none⟩ (.int .u32 x.next)).setCell ⟨B, 4, none⟩ (.bool x.valid)).setCell ⟨B, 5, none⟩ (.int .u64 x.exp)).setCell ⟨B, 6, none⟩ v
theorem LnB.store {B : Nat} {y : Rt} {u : Value} {W : World} (h : LnB B y u W) (x : Rt) (v : Value) : LnB B x v (store7 W B x v) := by
  unfold LnB at h ⊢
  simp [World.setCell, Array.getElem?_modify, h]
theorem grown_store7 (W : World) (B : Nat) (x : Rt) (v : Value) : W.grownBy (store7 W B x v) (some B) :=
  grown_cellOf (grown_cellOf (grown_cellOf (grown_cellOf (grown_cellOf (grown_cellOf (grown_cellOf (grown_self _ _) 0 _) 1 _) 2 _) 3 _) 4 _) 5 _) 6 _

set_option maxRecDepth 100000 in
set_option maxHeartbeats 2000000 in
/-- A line handed out: its list is a row of its own. -/
theorem handOut_sl (B : Nat) (x : Rt) (ao : Option Addr) (c : Nat) (hn : x.bef.length ≤ 4) (w : World) (h : LnB B x (.slice ao x.bef.length c) w) (hr : w.ownsRow 0 34 1 (.slice ao x.bef.length c) x.bef.length (x.bef.map encU)) :
    Calls Tryz.prog 96 #[.pointer (some ⟨B, 0, none⟩)] w fun e w' => ∃ v', e = .returned (rtV x v') ∧ w'.ownsRow w.heap.size 34 1 v' x.bef.length (x.bef.map encU) ∧ Below w.heap.size w w' := by
  obtain ⟨c0, c1, c2, c3, c4, c5, c6⟩ := (h.later ((Below.refl _ w).alloc (Nat.le_refl _) (rtBox ⟨0, 0, 0, 0, false, 0, []⟩ (.slice none 0 0)))).cell
  obtain ⟨e0, e1, e2, e3, e4, e5, e6⟩ := (h.later (((Below.refl _ w).alloc (Nat.le_refl _) (rtBox ⟨0, 0, 0, 0, false, 0, []⟩ (.slice none 0 0))).alloc (by simp) (rtBox x (.slice ao x.bef.length c)))).cell
  have hb1 : Below w.heap.size w ((w.alloc (rtBox ⟨0, 0, 0, 0, false, 0, []⟩ (.slice none 0 0))).alloc (rtBox x (.slice ao x.bef.length c))) := ((Below.refl _ _).alloc (Nat.le_refl _) _).alloc (by simp) _
  have hZ := (LnB.new ⟨0, 0, 0, 0, false, 0, []⟩ (.slice none 0 0) w).later ((Below.refl _ _).alloc (Nat.le_refl _) (rtBox x (.slice ao x.bef.length c)))
  have hN := LnB.new x (.slice ao x.bef.length c) (w.alloc (rtBox ⟨0, 0, 0, 0, false, 0, []⟩ (.slice none 0 0)))
  rw [World.size_alloc] at hN
  have hr1 := step_append_kept hr hb1
  have hs2 : w.heap.size + 2 ≤ ((w.alloc (rtBox ⟨0, 0, 0, 0, false, 0, []⟩ (.slice none 0 0))).alloc (rtBox x (.slice ao x.bef.length c))).heap.size := by simp
  dsimp only [rtBox] at hb1 hZ hN hr1 hs2 c0 c1 c2 c3 c4 c5 c6 e0 e1 e2 e3 e4 e5 e6
  go_enter Tryz.func96, Tryz.ntmps96
  go_wp2_with fail
  clear c0 c1 c2 c3 c4 c5 c6 e0 e1 e2 e3 e4 e5 e6
  generalize World.alloc _ _ = W1 at hb1 hZ hN hr1 hs2 ⊢
  refine (Clone_any (.slice ao x.bef.length c) x.bef.length x.bef (by omega) _ hr1).mono ?_
  rintro e W2 ⟨v', rfl, ho2, hb2⟩
  obtain ⟨ao2, c2', rfl, _⟩ := row_form ho2
  have hZ2 := hZ.later hb2
  have hN2 := hN.later hb2
  have hbb := hb1.trans (hb2.mono hb1.size)
  have hsz := hb1.size
  have f6 := hN2.free 6
  have hzf := hZ2.free
  obtain ⟨n0, n1, n2, n3, n4, n5, n6⟩ := hN2.cell
  obtain ⟨z0, z1, z2, z3, z4, z5, z6⟩ := hZ2.cell
  have hN3 := hN2.set6 (.slice ao2 x.bef.length c2') x.bef
  have hg3 : W2.grownBy (W2.setCell ⟨w.heap.size + 1, 6, none⟩ (.slice ao2 x.bef.length c2')) (some (w.heap.size + 1)) := grown_cellOf (grown_self _ _) 6 _
  have hZ3 := hZ2.block (hg3.block w.heap.size (by have := hN2.lt; omega) (by simp))
  have hF := hZ3.store x (.slice ao2 x.bef.length c2')
  have hg4 := grown_store7 (W2.setCell ⟨w.heap.size + 1, 6, none⟩ (.slice ao2 x.bef.length c2')) w.heap.size x (.slice ao2 x.bef.length c2')
  have hlt := ho2.lt
  have ho3 := ho2.kept hg3 (.inr (fun e => by have := (hlt _ e).1; omega))
  have ho4 := ho3.kept hg4 (.inr (fun e => by have := (hlt _ e).1; omega))
  have hG : Below w.heap.size w (store7 (W2.setCell ⟨w.heap.size + 1, 6, none⟩ (.slice ao2 x.bef.length c2')) w.heap.size x (.slice ao2 x.bef.length c2')) := (hbb.grown hg3 hbb.size (fun k e => by cases e; omega)).grown hg4 (Nat.le_trans hbb.size hg3.size) (fun k e => by cases e; exact Nat.le_refl _)
  clear hZ hN hr1 hb2 hb1 hN3 hg3 hZ3 hg4 ho3 hlt
  go_wp2
  dsimp only [store7] at hF hG ho4
  generalize World.setCell _ _ _ = W8 at hF hG ho4 ⊢
  obtain ⟨q0, q1, q2, q3, q4, q5, q6⟩ := hF.cell
  exact bodyPost_ret (v := rtV x (.slice ao2 x.bef.length c2')) (by simp [results, Tryz.results96, go_sem, q0, q1, q2, q3, q4, q5, q6]) rfl ⟨_, rfl, ownsRow_base_a ho4 (by omega), hG⟩

theorem handOut_any (B : Nat) (x : Rt) (v : Value) (hn : x.bef.length ≤ 4) (w : World) (h : LnB B x v w) (hr : w.ownsRow 0 34 1 v x.bef.length (x.bef.map encU)) :
    Calls Tryz.prog 96 #[.pointer (some ⟨B, 0, none⟩)] w fun e w' => ∃ v', e = .returned (rtV x v') ∧ w'.ownsRow w.heap.size 34 1 v' x.bef.length (x.bef.map encU) ∧ Below w.heap.size w w' := by
  obtain ⟨ao, c, rfl, _⟩ := row_form hr
  exact handOut_sl B x ao c hn w h hr

set_option maxRecDepth 100000 in
set_option maxHeartbeats 2000000 in
/-- TO END a line. -/
theorem end_any (B : Nat) (x : Rt) (v : Value) (s : Int) (w : World) (h : LnB B x v w) :
    Calls Tryz.prog 113 #[.pointer (some ⟨B, 0, none⟩), .int .u32 s] w fun e w' => e = .returned (.tuple #[]) ∧ LnB B (endR x s) (.slice none 0 0) w' ∧ w.grownBy w' (some B) := by
  obtain ⟨c0, c1, c2, c3, c4, c5, c6⟩ := h.cell
  have hf := h.free
  have h1 : Hid (∀ y : Int, y = max (gr x.seq) s → LnB B (endR x s) (.slice none 0 0) ((((w.setCell ⟨B, 1, none⟩ (.int .u32 y)).setCell ⟨B, 4, none⟩ (.bool false)).setCell ⟨B, 5, none⟩ (.int .u64 0)).setCell ⟨B, 6, none⟩ (.slice none 0 0))) := by
    rintro y rfl
    exact (((h.set1 (max (gr x.seq) s)).set4 false).set5 0).set6 (.slice none 0 0) []
  have hg : ∀ u, w.grownBy ((((w.setCell ⟨B, 1, none⟩ u).setCell ⟨B, 4, none⟩ (.bool false)).setCell ⟨B, 5, none⟩ (.int .u64 0)).setCell ⟨B, 6, none⟩ (.slice none 0 0)) (some B) :=
    fun u => grown_cellOf (grown_cellOf (grown_cellOf (grown_cellOf (grown_self _ _) 1 _) 4 _) 5 _) 6 _
  go_enter Tryz.func113, Tryz.ntmps113
  go_wp2_with fail
  refine (grown_any _ _).mono ?_
  rintro e w1 ⟨rfl, rfl⟩
  go_wp2
  all_goals
    go_returns
    exact ⟨rfl, h1.out _ (by omega), hg _⟩
end Go.Proofs.YtakaadcpaeiccabGreat

namespace Go.Proofs.YtakaadcpaeiccabGreat
open Go.RowKit Go.Maps

/-- Nothing but the blocks of S has turned. -/
structure Fx (S : Nat → Prop) (w w' : World) : Prop where
  os : w'.os = w.os
  tape : w'.tape = w.tape
  output : w'.output = w.output
  size : w.heap.size ≤ w'.heap.size
  block : ∀ k, k < w.heap.size → ¬ S k → w'.heap[k]? = w.heap[k]?
theorem Fx.refl (S : Nat → Prop) (w : World) : Fx S w w := ⟨rfl, rfl, rfl, Nat.le_refl _, fun _ _ _ => rfl⟩
theorem Fx.trans {S S' : Nat → Prop} {a b c : World} (h : Fx S a b) (k : Fx S' b c) (hs : ∀ i, i < a.heap.size → S' i → S i) : Fx S a c :=
  ⟨k.os.trans h.os, k.tape.trans h.tape, k.output.trans h.output, Nat.le_trans h.size k.size, fun i hi hn => (k.block i (Nat.lt_of_lt_of_le hi h.size) (fun e => hn (hs i hi e))).trans (h.block i hi hn)⟩
theorem Fx.mono {S S' : Nat → Prop} {a b : World} (h : Fx S a b) (hs : ∀ i, S i → S' i) : Fx S' a b :=
  ⟨h.os, h.tape, h.output, h.size, fun i hi hn => h.block i hi (fun e => hn (hs i e))⟩
theorem Fx.below {S : Nat → Prop} {a b : World} (h : Below a.heap.size a b) : Fx S a b := ⟨h.os, h.tape, h.output, h.size, fun k hk _ => h.block k hk⟩
theorem Fx.grown {S : Nat → Prop} {a b : World} {r : Option Nat} (h : a.grownBy b r) (hr : ∀ k, r = some k → S k) : Fx S a b :=
  ⟨h.os, h.tape, h.output, h.size, fun k hk hn => h.block k hk (fun e => hn (hr k e.symm))⟩
theorem Fx.toBelow {S : Nat → Prop} {a b : World} {n : Nat} (h : Fx S a b) (hn : n ≤ a.heap.size) (hs : ∀ k, k < n → ¬ S k) : Below n a b :=
  ⟨h.os, h.tape, h.output, h.size, fun k hk => h.block k (Nat.lt_of_lt_of_le hk hn) (hs k hk)⟩
theorem row_at {W W' : World} {base e size n : Nat} {v : Value} {cs : List Value} (h : W.ownsRow base e size v n cs) (he : ∀ k, v.ownBlock = some k → W'.heap[k]? = W.heap[k]?) : W'.ownsRow base e size v n cs := by
  refine ⟨h.1, ?_⟩
  rcases h.2 with hn | ⟨g, cap, cur, rfl, h1, h2, h3⟩
  · exact .inl hn
  · exact .inr ⟨g, cap, cur, rfl, h1, (he g rfl).trans h2, h3⟩

/-- The blocks of a table. -/
def TIn (T M : Nat) (f : Int → Option Nat) (g : Int → Value) (A : List Rt) (k : Nat) : Prop :=
  k = T ∨ k = M ∨ ∃ x ∈ A, f x.dest = some k ∨ (g x.dest).ownBlock = some k
/-- A table, laid in memory: f: the line of a destination; g: its list of neighbours. -/
structure MT (me : Int) (T M : Nat) (f : Int → Option Nat) (g : Int → Value) (A : List Rt) (W : World) : Prop where
  blk : TbB T me M W
  map : MapP W M f A.length
  asc : Asc A
  ok : ∀ x ∈ A, x.Ok
  dom : ∀ d B, U32 d → f d = some B → ∃ x ∈ A, x.dest = d
  ln : ∀ x ∈ A, ∃ B, f x.dest = some B ∧ LnB B x (g x.dest) W
  row : ∀ x ∈ A, W.ownsRow 0 34 1 (g x.dest) x.bef.length (x.bef.map encU)
  apart : ∀ x ∈ A, ∀ y ∈ A, x.dest ≠ y.dest → (g x.dest).ownBlock = none ∨ (g x.dest).ownBlock ≠ (g y.dest).ownBlock
  len : A.length ≤ 8
theorem MT.kept {me : Int} {T M : Nat} {f : Int → Option Nat} {g : Int → Value} {A : List Rt} {W W' : World} (h : MT me T M f g A W) (he : ∀ k, TIn T M f g A k → W'.heap[k]? = W.heap[k]?) : MT me T M f g A W' := by
  refine ⟨h.blk.block (he T (.inl rfl)), h.map.block (he M (.inr (.inl rfl))), h.asc, h.ok, h.dom, fun x hx => ?_, fun x hx => ?_, h.apart, h.len⟩
  · obtain ⟨B, h1, h2⟩ := h.ln x hx
    exact ⟨B, h1, h2.block (he B (.inr (.inr ⟨x, hx, .inl h1⟩)))⟩
  · exact row_at (h.row x hx) fun k hk => he k (.inr (.inr ⟨x, hx, .inr hk⟩))
theorem MT.lt {me : Int} {T M : Nat} {f : Int → Option Nat} {g : Int → Value} {A : List Rt} {W : World} (h : MT me T M f g A W) {k : Nat} (hk : TIn T M f g A k) : k < W.heap.size := by
  rcases hk with rfl | rfl | ⟨x, hx, hk | hk⟩
  · exact h.blk.lt
  · exact h.map.lt
  · obtain ⟨B, h1, h2⟩ := h.ln x hx
    rw [h1] at hk
    cases hk
    exact h2.lt
  · exact ((h.row x hx).lt k hk).2
/-- What the map holds of a destination. -/
theorem MT.off {me : Int} {T M : Nat} {f : Int → Option Nat} {g : Int → Value} {A : List Rt} {W : World} (h : MT me T M f g A W) {d : Int} (hd : U32 d) (hl : lineOf A d = none) : f d = none := by
  cases e : f d with
  | none => rfl
  | some B =>
    obtain ⟨x, hx, hxd⟩ := h.dom d B hd e
    exact absurd hxd (lineOf_none.1 hl x hx)
theorem MT.line {me : Int} {T M : Nat} {f : Int → Option Nat} {g : Int → Value} {A : List Rt} {W : World} (h : MT me T M f g A W) {d : Int} {x : Rt} (hl : lineOf A d = some x) :
    x ∈ A ∧ x.dest = d ∧ ∃ B, f d = some B ∧ LnB B x (g d) W ∧ W.ownsRow 0 34 1 (g d) x.bef.length (x.bef.map encU) := by
  obtain ⟨hx, rfl⟩ := lineOf_some hl
  obtain ⟨B, h1, h2⟩ := h.ln x hx
  exact ⟨hx, rfl, B, h1, h2, h.row x hx⟩
/-- Two lines lie in two blocks. -/
theorem MT.inj {me : Int} {T M : Nat} {f : Int → Option Nat} {g : Int → Value} {A : List Rt} {W : World} (h : MT me T M f g A W) {x y : Rt} (hx : x ∈ A) (hy : y ∈ A) {B : Nat} (h1 : f x.dest = some B) (h2 : f y.dest = some B) : x.dest = y.dest := by
  obtain ⟨B1, p1, q1⟩ := h.ln x hx
  obtain ⟨B2, p2, q2⟩ := h.ln y hy
  rw [h1] at p1
  rw [h2] at p2
  cases p1
  cases p2
  unfold LnB at q1 q2
  rw [q1] at q2
  injection q2 with q2
  injection q2 with q2
  have := congrArg (fun a => a[0]?) q2
  simpa using this
theorem row_not {W : World} {base e size n : Nat} {v : Value} {cs : List Value} (h : W.ownsRow base e size v n cs) {B : Nat} {o : Obj} (hB : W.heap[B]? = some o) (ho : ∀ c, o ≠ .cells c e (0, 0)) : v.ownBlock ≠ some B := by
  rcases ownsRow_ne_a h hB ho with e | e
  · rw [e]; simp
  · exact e
theorem apart_symm {a b : Option Nat} (h : a = Option.none ∨ a ≠ b) : b = Option.none ∨ b ≠ a := by
  cases a <;> cases b
  · exact .inl rfl
  · exact .inr (by simp)
  · exact .inl rfl
  · rcases h with h | h
    · cases h
    · exact .inr h.symm
/-- One line's block has turned: the line there is another, with a row of neighbours that is no other line's. -/
theorem MT.turn {me : Int} {T M : Nat} {f : Int → Option Nat} {g : Int → Value} {A : List Rt} {W W' : World} (h : MT me T M f g A W) {d : Int} {x : Rt} (hl : lineOf A d = some x) {B : Nat} (hB : f d = some B)
    (F : Rt → Rt) (hFd : ∀ y, (F y).dest = y.dest) (hok : (F x).Ok) (v : Value) (hx' : LnB B (F x) v W') (hr' : W'.ownsRow 0 34 1 v (F x).bef.length ((F x).bef.map encU))
    (hv : v.ownBlock = none ∨ v.ownBlock = (g d).ownBlock ∨ ∀ k, v.ownBlock = some k → W.heap.size ≤ k)
    (hk : ∀ k, TIn T M f g A k → k ≠ B → (g d).ownBlock ≠ some k → W'.heap[k]? = W.heap[k]?) :
    MT me T M f (fun e => if e = d then v else g e) (modL A d F) W' ∧ ∀ k, TIn T M f (fun e => if e = d then v else g e) (modL A d F) k → TIn T M f g A k ∨ v.ownBlock = Option.some k := by
  obtain ⟨hxA, hxd, B', hB', hL, hR⟩ := h.line hl
  rw [hB] at hB'
  cases hB'
  have hTB : ∀ o, W.heap[B]? = some o → o = rtBox x (g d) := fun o ho => by rw [show W.heap[B]? = _ from hL] at ho; exact (Option.some.inj ho).symm
  have hTne : T ≠ B := fun e => by subst e; have := hTB _ h.blk; simp at this
  have hMne : M ≠ B := fun e => by
    subst e
    obtain ⟨D, ⟨es, cl, hm, _⟩, _⟩ := h.map
    have := hTB _ hm
    simp at this
  have hgT : (g d).ownBlock ≠ Option.some T := row_not hR h.blk (fun c e => by cases e)
  have hgM : (g d).ownBlock ≠ Option.some M := by
    obtain ⟨D, ⟨es, cl, hm, _⟩, _⟩ := h.map
    exact row_not hR hm (fun c e => by cases e)
  have hmem : ∀ y ∈ modL A d F, (y = F x ∧ y.dest = d) ∨ (y ∈ A ∧ y.dest ≠ d) := by
    intro y hy
    rcases modL_mem hy with ⟨z, hz, hzd, rfl⟩ | hy
    · have : z = x := h.asc.inj hz hxA (by rw [hzd, hxd])
      subst this
      exact .inl ⟨rfl, by rw [hFd, hzd]⟩
    · exact .inr hy
  have hother : ∀ y ∈ A, y.dest ≠ d → ∃ C, f y.dest = Option.some C ∧ LnB C y (g y.dest) W' ∧ C ≠ B := by
    intro y hy hyd
    obtain ⟨C, h1, h2⟩ := h.ln y hy
    have hC : C ≠ B := fun e => by
      subst e
      exact hyd (by rw [h.inj hy hxA h1 (by rw [hxd]; exact hB), hxd])
    have hgC : (g d).ownBlock ≠ Option.some C := row_not hR h2 (fun c e => by cases e)
    exact ⟨C, h1, h2.block (hk C (.inr (.inr ⟨y, hy, .inl h1⟩)) hC hgC), hC⟩
  have hrow : ∀ y ∈ A, y.dest ≠ d → W'.ownsRow 0 34 1 (g y.dest) y.bef.length (y.bef.map encU) := by
    intro y hy hyd
    refine row_at (h.row y hy) fun k hk' => hk k (.inr (.inr ⟨y, hy, .inr hk'⟩)) ?_ ?_
    · rintro rfl
      exact row_not (h.row y hy) hL (fun c e => by cases e) hk'
    · intro e
      rcases h.apart y hy x hxA (by rw [hxd]; exact hyd) with e' | e'
      · rw [hk'] at e'; cases e'
      · rw [hxd] at e'
        exact e' (by rw [hk', e])
  have hap : ∀ y ∈ A, y.dest ≠ d → v.ownBlock = Option.none ∨ v.ownBlock ≠ (g y.dest).ownBlock := by
    intro y hy hyd
    rcases hv with e | e | e
    · exact .inl e
    · rw [e]
      have := h.apart x hxA y hy (by rw [hxd]; exact fun e => hyd e.symm)
      rwa [hxd] at this
    · cases hvb : v.ownBlock with
      | none => exact .inl rfl
      | some k =>
        refine .inr fun e' => ?_
        have h1 := e k hvb
        have h2 := ((h.row y hy).lt k e'.symm).2
        omega
  have hgi : ∀ y : Rt, y.dest ≠ d → (if y.dest = d then v else g y.dest) = g y.dest := fun y hyd => if_neg hyd
  have hgd : ∀ y : Rt, y.dest = d → (if y.dest = d then v else g y.dest) = v := fun y hyd => if_pos hyd
  refine ⟨⟨h.blk.block (hk T (.inl rfl) hTne hgT), ?_, modL_asc h.asc d F hFd, ?_, ?_, ?_, ?_, ?_, by rw [modL_length]; exact h.len⟩, ?_⟩
  · rw [modL_length]
    exact h.map.block (hk M (.inr (.inl rfl)) hMne hgM)
  · intro y hy
    rcases hmem y hy with ⟨rfl, _⟩ | ⟨hyA, _⟩
    · exact hok
    · exact h.ok y hyA
  · intro e C he hf
    obtain ⟨y, hy, hye⟩ := h.dom e C he hf
    by_cases hyd : y.dest = d
    · exact ⟨F y, List.mem_map.2 ⟨y, hy, if_pos hyd⟩, by rw [hFd, hye]⟩
    · exact ⟨y, List.mem_map.2 ⟨y, hy, if_neg hyd⟩, hye⟩
  · intro y hy
    rcases hmem y hy with ⟨rfl, hyd⟩ | ⟨hyA, hyd⟩
    · refine ⟨B, by rw [hyd]; exact hB, ?_⟩
      rw [hgd _ hyd]
      exact hx'
    · obtain ⟨C, h1, h2, _⟩ := hother y hyA hyd
      refine ⟨C, h1, ?_⟩
      rw [hgi y hyd]
      exact h2
  · intro y hy
    rcases hmem y hy with ⟨rfl, hyd⟩ | ⟨hyA, hyd⟩
    · rw [hgd _ hyd]
      exact hr'
    · rw [hgi y hyd]
      exact hrow y hyA hyd
  · intro y hy z hz hyz
    rcases hmem y hy with ⟨rfl, hyd⟩ | ⟨hyA, hyd⟩
    · rcases hmem z hz with ⟨rfl, hzd⟩ | ⟨hzA, hzd⟩
      · exact absurd rfl hyz
      · rw [hgd _ hyd, hgi z hzd]
        exact hap z hzA hzd
    · rcases hmem z hz with ⟨rfl, hzd⟩ | ⟨hzA, hzd⟩
      · rw [hgd _ hzd, hgi y hyd]
        exact apart_symm (hap y hyA hyd)
      · rw [hgi y hyd, hgi z hzd]
        exact h.apart y hyA z hzA hyz
  · intro k hk'
    rcases hk' with rfl | rfl | ⟨y, hy, hk' | hk'⟩
    · exact .inl (.inl rfl)
    · exact .inl (.inr (.inl rfl))
    · rcases hmem y hy with ⟨rfl, hyd⟩ | ⟨hyA, hyd⟩
      · rw [hyd] at hk'
        exact .inl (.inr (.inr ⟨x, hxA, .inl (by rw [hxd]; exact hk')⟩))
      · exact .inl (.inr (.inr ⟨y, hyA, .inl hk'⟩))
    · rcases hmem y hy with ⟨rfl, hyd⟩ | ⟨hyA, hyd⟩
      · dsimp only at hk'
        rw [if_pos hyd] at hk'
        exact .inr hk'
      · dsimp only at hk'
        rw [if_neg hyd] at hk'
        exact .inl (.inr (.inr ⟨y, hyA, .inr hk'⟩))

/-- A table whose blocks lie in S. -/
def Tab (me : Int) (T : Nat) (S : Nat → Prop) (A : List Rt) (W : World) : Prop :=
  ∃ M f g, MT me T M f g A W ∧ ∀ k, TIn T M f g A k → S k
/-- S, and what has been laid since. -/
def ext (S : Nat → Prop) (a b : Nat) : Nat → Prop := fun k => S k ∨ (a ≤ k ∧ k < b)
theorem Tab.mono {me : Int} {T : Nat} {S S' : Nat → Prop} {A : List Rt} {W : World} (h : Tab me T S A W) (hs : ∀ k, S k → S' k) : Tab me T S' A W := by
  obtain ⟨M, f, g, h1, h2⟩ := h
  exact ⟨M, f, g, h1, fun k hk => hs k (h2 k hk)⟩
theorem Tab.kept {me : Int} {T : Nat} {S S' : Nat → Prop} {A : List Rt} {W W' : World} (h : Tab me T S A W) (hf : Fx S' W W') (hd : ∀ k, k < W.heap.size → S k → ¬ S' k) : Tab me T S A W' := by
  obtain ⟨M, f, g, h1, h2⟩ := h
  exact ⟨M, f, g, h1.kept (fun k hk => hf.block k (h1.lt hk) (hd k (h1.lt hk) (h2 k hk))), h2⟩
theorem Tab.later {me : Int} {T : Nat} {S : Nat → Prop} {A : List Rt} {W W' : World} (h : Tab me T S A W) (hb : Below W.heap.size W W') : Tab me T S A W' := by
  obtain ⟨M, f, g, h1, h2⟩ := h
  exact ⟨M, f, g, h1.kept (fun k hk => hb.block k (h1.lt hk)), h2⟩
end Go.Proofs.YtakaadcpaeiccabGreat

namespace Go.Proofs.YtakaadcpaeiccabGreat
open Go.RowKit Go.Maps

theorem MT.inB {me : Int} {T M : Nat} {f : Int → Option Nat} {g : Int → Value} {A : List Rt} {w : World} (h : MT me T M f g A w) {d : Int} {x : Rt} (hl : lineOf A d = some x) {B : Nat} (hB : f d = some B) : TIn T M f g A B := by
  obtain ⟨hx, hxd, _⟩ := h.line hl
  exact .inr (.inr ⟨x, hx, .inl (by rw [hxd]; exact hB)⟩)
theorem MT.rowB {me : Int} {T M : Nat} {f : Int → Option Nat} {g : Int → Value} {A : List Rt} {w : World} (h : MT me T M f g A w) {d : Int} {x : Rt} (hl : lineOf A d = some x) {B : Nat} (hB : f d = some B) : (g d).ownBlock ≠ some B := by
  obtain ⟨_, _, B', hB', hL, hR⟩ := h.line hl
  rw [hB] at hB'
  cases hB'
  exact row_not hR hL (fun c e => by cases e)
/-- One line has turned where it lies. -/
theorem MT.turnS {me : Int} {T M : Nat} {f : Int → Option Nat} {g : Int → Value} {A : List Rt} {w w' : World} (h : MT me T M f g A w) {S : Nat → Prop} (hS : ∀ k, TIn T M f g A k → S k) {d : Int} {x : Rt} (hl : lineOf A d = some x) {B : Nat} (hB : f d = some B) (hg : w.grownBy w' (some B))
    (F : Rt → Rt) (hFd : ∀ y, (F y).dest = y.dest) (hok : (F x).Ok) (v : Value) (hv : v.ownBlock = none ∨ v.ownBlock = (g d).ownBlock) (hx' : LnB B (F x) v w') (hr' : w'.ownsRow 0 34 1 v (F x).bef.length ((F x).bef.map encU)) :
    Tab me T S (modL A d F) w' := by
  have ht := h.turn (W' := w') hl hB F hFd hok v hx' hr' (by rcases hv with e | e; exact .inl e; exact .inr (.inl e)) (fun k hk hkB _ => hg.block k (h.lt hk) (fun e => hkB (by cases e; rfl)))
  refine ⟨M, f, _, ht.1, fun k hk => ?_⟩
  rcases ht.2 k hk with h1 | h1
  · exact hS k h1
  · rcases hv with e | e
    · rw [e] at h1; cases h1
    · obtain ⟨hx, hxd, _⟩ := h.line hl
      exact hS k (.inr (.inr ⟨x, hx, .inr (by rw [hxd, ← e]; exact h1)⟩))
def zeroR : Rt := ⟨0, 0, 0, 0, false, 0, []⟩
def useF (e : Int) (y : Rt) : Rt := if y.valid then { y with exp := max y.exp e } else y
def useL (A : List Rt) (d e : Int) : List Rt := modL A d (useF e)
theorem useF_dest (e : Int) (y : Rt) : (useF e y).dest = y.dest := by
  unfold useF
  split <;> rfl
def loseF (frm s : Int) (y : Rt) : Rt := if y.valid && (y.next == frm) then endR y s else y
theorem loseF_dest (frm s : Int) (y : Rt) : (loseF frm s y).dest = y.dest := by
  unfold loseF
  split <;> rfl
def loseL (A : List Rt) (frm d s : Int) : List Rt := modL A d (loseF frm s)
def loseB (A : List Rt) (frm d : Int) : Bool := (lineOf A d).any fun y => y.valid && (y.next == frm)
def findL (A : List Rt) (d now : Int) : Rt × Bool :=
  match lineOf A d with
  | some x => if x.valid && decide (x.exp > now) then (x, true) else (zeroR, false)
  | none => (zeroR, false)
theorem modL_id {A : List Rt} (h : Asc A) {d : Int} {f : Rt → Rt} (hf : ∀ x, lineOf A d = some x → f x = x) : modL A d f = A := by
  unfold modL
  conv => rhs; rw [← List.map_id A]
  refine List.map_congr_left fun x hx => ?_
  by_cases e : x.dest = d
  · simp only [e, if_true]
    exact hf x (by rw [← e]; exact lineOf_mem h hx)
  · simp [e]
theorem MT.later {me : Int} {T M : Nat} {f : Int → Option Nat} {g : Int → Value} {A : List Rt} {W W' : World} (h : MT me T M f g A W) (hb : Below W.heap.size W W') : MT me T M f g A W' :=
  h.kept fun k hk => hb.block k (h.lt hk)
/-- What valid hands back. -/
def validP (f : Int → Option Nat) (A : List Rt) (d : Int) : Value :=
  match lineOf A d with
  | some x => if x.valid then .pointer ((f d).map fun B => ⟨B, 0, none⟩) else .pointer none
  | none => .pointer none
theorem valid_any {me : Int} {T M : Nat} {f : Int → Option Nat} {g : Int → Value} {A : List Rt} {w : World} (h : MT me T M f g A w) {d : Int} (hd : U32 d) :
    Calls Tryz.prog 116 #[.pointer (some ⟨T, 0, none⟩), .int .u32 d] w fun e w' => e = .returned (validP f A d) ∧ w' = w := by
  cases hl : lineOf A d with
  | none =>
    have := valid_none T M A.length me f d hd (h.off hd hl) w h.blk h.map
    unfold validP
    rw [hl]
    exact this
  | some x =>
    obtain ⟨hx, hxd, B, hB, hL, _⟩ := h.line hl
    have := valid_some T M A.length B me f d hd hB x (g d) w h.blk h.map hL
    unfold validP
    rw [hl, hB]
    refine this.mono ?_
    rintro e w' ⟨rfl, rfl⟩
    refine ⟨?_, rfl⟩
    by_cases hxv : x.valid = true <;> simp [hxv]
theorem u64_max {a b : Int} (h : U64 a) (h' : U64 b) : U64 (max a b) := by
  unfold U64 at *
  omega

set_option maxRecDepth 100000 in
set_option maxHeartbeats 2000000 in
theorem Use_line (T : Nat) (d ex : Int) (B : Nat) (x : Rt) (v : Value) (w : World) (hv : Calls Tryz.prog 116 #[.pointer (some ⟨T, 0, none⟩), .int .u32 d] w fun e w' => e = .returned (.pointer (some ⟨B, 0, none⟩)) ∧ w' = w) (h : LnB B x v w) :
    Calls Tryz.prog 81 #[.pointer (some ⟨T, 0, none⟩), .int .u32 d, .int .u64 ex] w fun e w' => e = .returned (.tuple #[]) ∧ LnB B { x with exp := max x.exp ex } v w' ∧ w.grownBy w' (some B) := by
  obtain ⟨c0, c1, c2, c3, c4, c5, c6⟩ := h.cell
  have hf := h.free
  have h1 : Hid (∀ y : Int, y = max x.exp ex → LnB B { x with exp := max x.exp ex } v (w.setCell ⟨B, 5, none⟩ (.int .u64 y))) := by
    rintro y rfl
    exact h.set5 _
  have hg : ∀ u, w.grownBy (w.setCell ⟨B, 5, none⟩ u) (some B) := fun u => grown_cellOf (grown_self _ _) 5 _
  have HV := (show Hid _ from hv)
  clear hv
  go_enter Tryz.func81, Tryz.ntmps81
  go_wp2_with fail
  refine Calls.mono HV.out ?_
  rintro e w1 ⟨rfl, rfl⟩
  clear HV
  go_wp2
  all_goals
    go_returns
    exact ⟨rfl, h1.out _ (by omega), hg _⟩
set_option maxRecDepth 100000 in
set_option maxHeartbeats 2000000 in
theorem Use_no (T : Nat) (d ex : Int) (w : World) (hv : Calls Tryz.prog 116 #[.pointer (some ⟨T, 0, none⟩), .int .u32 d] w fun e w' => e = .returned (.pointer none) ∧ w' = w) :
    Calls Tryz.prog 81 #[.pointer (some ⟨T, 0, none⟩), .int .u32 d, .int .u64 ex] w fun e w' => e = .returned (.tuple #[]) ∧ w' = w := by
  have HV := (show Hid _ from hv)
  clear hv
  go_enter Tryz.func81, Tryz.ntmps81
  go_wp2_with fail
  refine Calls.mono HV.out ?_
  rintro e w1 ⟨rfl, rfl⟩
  clear HV
  go_wp2
  go_returns
  exact ⟨rfl, rfl⟩
theorem Use_any (me : Int) (T : Nat) (S : Nat → Prop) (A : List Rt) (d ex : Int) (hd : U32 d) (he : U64 ex) (w : World) (h : Tab me T S A w) :
    Calls Tryz.prog 81 #[.pointer (some ⟨T, 0, none⟩), .int .u32 d, .int .u64 ex] w fun e w' => e = .returned (.tuple #[]) ∧ Tab me T S (useL A d ex) w' ∧ Fx S w w' := by
  obtain ⟨M, f, g, hM, hS⟩ := h
  have hv := valid_any hM hd
  unfold validP at hv
  cases hl : lineOf A d with
  | none =>
    rw [hl] at hv
    refine (Use_no T d ex w hv).mono ?_
    rintro e w' ⟨rfl, rfl⟩
    refine ⟨rfl, ⟨M, f, g, ?_, ?_⟩, Fx.refl _ _⟩
    · unfold useL; rw [modL_none hl]; exact hM
    · unfold useL; rw [modL_none hl]; exact hS
  | some x =>
    rw [hl] at hv
    obtain ⟨hx, hxd, B, hB, hL, hR⟩ := hM.line hl
    rw [hB] at hv
    cases hxv : x.valid with
    | false =>
      simp only [hxv] at hv
      refine (Use_no T d ex w hv).mono ?_
      rintro e w' ⟨rfl, rfl⟩
      have hid : useL A d ex = A := modL_id hM.asc fun y hy => by
        rw [hl] at hy
        cases hy
        simp [useF, hxv]
      rw [hid]
      exact ⟨rfl, ⟨M, f, g, hM, hS⟩, Fx.refl _ _⟩
    | true =>
      simp only [hxv, if_true, Option.map_some] at hv
      refine (Use_line T d ex B x (g d) w hv hL).mono ?_
      rintro e w' ⟨rfl, hL', hg⟩
      have hok := hM.ok x hx
      have hF : useF ex x = { x with exp := max x.exp ex } := if_pos hxv
      refine ⟨rfl, hM.turnS hS (w' := w') hl hB hg (useF ex) (useF_dest ex) ?_ (g d) (.inr rfl) ?_ ?_, Fx.grown hg (fun k e => by cases e; exact hS _ (hM.inB hl hB))⟩
      · rw [hF]
        exact ⟨hok.dest, hok.seq, hok.hops, hok.next, u64_max hok.exp he, hok.befs, hok.bef, hok.asc⟩
      · rw [hF]
        exact hL'
      · rw [hF]
        exact row_at hR (fun k hk => hg.block k (hR.lt k hk).2 (fun e => hM.rowB hl hB (by rw [hk, e])))

set_option maxRecDepth 100000 in
set_option maxHeartbeats 2000000 in
theorem Lose_line (T : Nat) (frm d s : Int) (B : Nat) (x : Rt) (v : Value) (w : World) (hv : Calls Tryz.prog 116 #[.pointer (some ⟨T, 0, none⟩), .int .u32 d] (w.alloc (.cells #[.int .u32 d, .int .u32 s] 237)) fun e w' => e = .returned (.pointer (some ⟨B, 0, none⟩)) ∧ w' = (w.alloc (.cells #[.int .u32 d, .int .u32 s] 237))) (h : LnB B x v w) :
    Calls Tryz.prog 168 #[.pointer (some ⟨T, 0, none⟩), .int .u32 frm, .agg #[.int .u32 d, .int .u32 s]] w fun e w' => e = .returned (.bool (x.next == frm)) ∧ (if x.next == frm then LnB B (endR x s) (.slice none 0 0) w' ∧ w.grownBy w' (some B) else Below w.heap.size w w') := by
  have hb : Below w.heap.size w (w.alloc (.cells #[.int .u32 d, .int .u32 s] 237)) := (Below.refl _ _).alloc (Nat.le_refl _) _
  have hL := h.later hb
  obtain ⟨c0, c1, c2, c3, c4, c5, c6⟩ := hL.cell
  have HV := (show Hid _ from hv)
  clear hv
  cases hq : (x.next == frm)
  · go_enter Tryz.func168, Tryz.ntmps168
    go_wp2_with fail
    refine Calls.mono HV.out ?_
    rintro e w1 ⟨rfl, rfl⟩
    clear HV
    go_wp2
    go_ret
    exact ⟨rfl, by simpa using hb⟩
  · go_enter Tryz.func168, Tryz.ntmps168
    go_wp2_with fail
    refine Calls.mono HV.out ?_
    rintro e w1 ⟨rfl, rfl⟩
    clear HV
    go_wp2_with fail
    refine (end_any B x v s _ hL).mono ?_
    rintro e w2 ⟨rfl, hL2, hg2⟩
    clear c0 c1 c2 c3 c4 c5 c6 hL
    have hg : w.grownBy w2 (some B) := ⟨hg2.os, hg2.tape, hg2.output, Nat.le_trans hb.size hg2.size, fun k hk hn => (hg2.block k (Nat.lt_of_lt_of_le hk hb.size) hn).trans (hb.block k hk)⟩
    clear hb hg2
    go_wp2
    go_ret
    exact ⟨rfl, by simpa using ⟨hL2, hg⟩⟩
set_option maxRecDepth 100000 in
set_option maxHeartbeats 2000000 in
theorem Lose_no (T : Nat) (frm d s : Int) (w : World) (hv : Calls Tryz.prog 116 #[.pointer (some ⟨T, 0, none⟩), .int .u32 d] (w.alloc (.cells #[.int .u32 d, .int .u32 s] 237)) fun e w' => e = .returned (.pointer none) ∧ w' = (w.alloc (.cells #[.int .u32 d, .int .u32 s] 237))) :
    Calls Tryz.prog 168 #[.pointer (some ⟨T, 0, none⟩), .int .u32 frm, .agg #[.int .u32 d, .int .u32 s]] w fun e w' => e = .returned (.bool false) ∧ Below w.heap.size w w' := by
  have hb : Below w.heap.size w (w.alloc (.cells #[.int .u32 d, .int .u32 s] 237)) := (Below.refl _ _).alloc (Nat.le_refl _) _
  have HV := (show Hid _ from hv)
  clear hv
  go_enter Tryz.func168, Tryz.ntmps168
  go_wp2_with fail
  refine Calls.mono HV.out ?_
  rintro e w1 ⟨rfl, rfl⟩
  clear HV
  go_wp2
  go_ret
  exact ⟨rfl, hb⟩
theorem Lose_any (me : Int) (T : Nat) (S : Nat → Prop) (A : List Rt) (frm d s : Int) (hd : U32 d) (hs : U32 s) (w : World) (h : Tab me T S A w) :
    Calls Tryz.prog 168 #[.pointer (some ⟨T, 0, none⟩), .int .u32 frm, .agg #[.int .u32 d, .int .u32 s]] w fun e w' => e = .returned (.bool (loseB A frm d)) ∧ Tab me T S (loseL A frm d s) w' ∧ Fx S w w' := by
  obtain ⟨M, f, g, hM, hS⟩ := h
  have hb : Below w.heap.size w (w.alloc (.cells #[.int .u32 d, .int .u32 s] 237)) := (Below.refl _ _).alloc (Nat.le_refl _) _
  have hv := valid_any (hM.later hb) hd
  unfold validP at hv
  cases hl : lineOf A d with
  | none =>
    rw [hl] at hv
    refine (Lose_no T frm d s w hv).mono ?_
    rintro e w' ⟨rfl, hb'⟩
    have h1 : loseB A frm d = false := by unfold loseB; rw [hl]; rfl
    have h2 : loseL A frm d s = A := by unfold loseL; rw [modL_none hl]
    rw [h1, h2]
    exact ⟨rfl, ⟨M, f, g, hM.later hb', hS⟩, Fx.below hb'⟩
  | some x =>
    rw [hl] at hv
    obtain ⟨hx, hxd, B, hB, hL, hR⟩ := hM.line hl
    rw [hB] at hv
    cases hxv : x.valid with
    | false =>
      simp only [hxv] at hv
      refine (Lose_no T frm d s w hv).mono ?_
      rintro e w' ⟨rfl, hb'⟩
      have h1 : loseB A frm d = false := by unfold loseB; rw [hl]; simp [hxv]
      have h2 : loseL A frm d s = A := modL_id hM.asc fun y hy => by
        rw [hl] at hy
        cases hy
        simp [loseF, hxv]
      rw [h1, h2]
      exact ⟨rfl, ⟨M, f, g, hM.later hb', hS⟩, Fx.below hb'⟩
    | true =>
      simp only [hxv, if_true, Option.map_some] at hv
      refine (Lose_line T frm d s B x (g d) w hv hL).mono ?_
      rintro e w' ⟨rfl, hif⟩
      have h1 : loseB A frm d = (x.next == frm) := by unfold loseB; rw [hl]; simp [hxv]
      rw [h1]
      cases hq : (x.next == frm) with
      | false =>
        rw [hq, if_neg (by simp)] at hif
        have h2 : loseL A frm d s = A := modL_id hM.asc fun y hy => by
          rw [hl] at hy
          cases hy
          simp [loseF, hq]
        rw [h2]
        exact ⟨rfl, ⟨M, f, g, hM.later hif, hS⟩, Fx.below hif⟩
      | true =>
        rw [hq, if_pos rfl] at hif
        obtain ⟨hL', hg⟩ := hif
        have hF : loseF frm s x = endR x s := by simp [loseF, hxv, hq]
        refine ⟨rfl, hM.turnS hS (w' := w') hl hB hg (loseF frm s) (loseF_dest frm s) ?_ (.slice none 0 0) (.inl rfl) ?_ ?_, Fx.grown hg (fun k e => by cases e; exact hS _ (hM.inB hl hB))⟩
        · rw [hF]
          exact endR_ok (hM.ok x hx) hs
        · rw [hF]
          exact hL'
        · rw [hF]
          exact ⟨rfl, .inl ⟨rfl, rfl⟩⟩
end Go.Proofs.YtakaadcpaeiccabGreat

namespace Go.Proofs.YtakaadcpaeiccabGreat
open Go.RowKit Go.Maps

end Go.Proofs.YtakaadcpaeiccabGreat

namespace Go.Proofs.YtakaadcpaeiccabGreat
open Go.RowKit Go.Maps

end Go.Proofs.YtakaadcpaeiccabGreat

namespace Go.Proofs.YtakaadcpaeiccabGreat
open Go.RowKit Go.Sort

/-- Numbers as cells. -/
def UC (d : Array Int) : List Value := d.toList.map (Value.int .u32)
theorem UC_get {d : Array Int} {j : Nat} (hj : j < d.size) : (UC d)[j]? = some (.int .u32 d[j]!) := by
  simp [UC, hj]
theorem UC_set (d : Array Int) (j : Nat) (x : Int) : (UC d).set j (.int .u32 x) = UC (d.setIfInBounds j x) := by
  simp [UC, List.map_set]
theorem swp_size (d : Array Int) (i j : Nat) : (swp d i j).size = d.size := by simp [swp]

/-- A row of numbers. -/
structure SR (base g cap n : Nat) (d : Array Int) (W : World) : Prop where
  size : d.size = n
  row : W.ownsRow base 34 1 (.slice (some ⟨g, 0, none⟩) n cap) n (UC d)
theorem SR.cell {base g cap n : Nat} {d : Array Int} {W : World} (h : SR base g cap n d W) {j : Nat} (hj : j < n) : W.cell? ⟨g, j, none⟩ = some (.int .u32 d[j]!) :=
  (h.row.cellAt j (by omega)).trans (UC_get (by rw [h.size]; exact hj))
theorem SR.free {base g cap n : Nat} {d : Array Int} {W : World} (h : SR base g cap n d W) (j : Nat) : W.frozen? ⟨g, j, none⟩ = false := h.row.frozenAt j
theorem SR.later {base g cap n : Nat} {d : Array Int} {W W' : World} (h : SR base g cap n d W) (hb : Below W.heap.size W W') : SR base g cap n d W' :=
  ⟨h.size, h.row.kept (row := none) ⟨hb.os, hb.tape, hb.output, hb.size, fun k hk _ => hb.block k hk⟩ (.inr (by simp [Value.ownBlock]))⟩
theorem SR.drewN {base g cap n : Nat} {d : Array Int} {W : World} (h : SR base g cap n d W) (q : Nat) : SR base g cap n d (W.drewN q) :=
  ⟨h.size, h.row.kept (row := none) ⟨rfl, rfl, rfl, Nat.le_refl _, fun _ _ _ => rfl⟩ (.inr (by simp [Value.ownBlock]))⟩
theorem SR.swap {base g cap n : Nat} {d : Array Int} {W : World} (h : SR base g cap n d W) (i j : Nat) :
    SR base g cap n (swp d i j) ((W.setCell ⟨g, i, none⟩ (.int .u32 d[j]!)).setCell ⟨g, j, none⟩ (.int .u32 d[i]!)) := by
  have h1 := (h.row.stored i (.int .u32 d[j]!)).1
  have h2 := (h1.stored j (.int .u32 d[i]!)).1
  rw [UC_set, UC_set] at h2
  exact ⟨by rw [swp_size]; exact h.size, h2⟩
theorem grn_st {A B : World} {g : Nat} (h : A.grownBy B (some g)) (j : Nat) (v : Value) : A.grownBy (B.setCell ⟨g, j, none⟩ v) (some g) :=
  ⟨h.os, h.tape, h.output, by simpa using h.size, fun i hi hne => (Below.heap_setCell B ⟨g, j, none⟩ v i (fun e => hne (by rw [e]))).trans (h.block i hi hne)⟩
theorem grn_rfl (A : World) (r : Option Nat) : A.grownBy A r := ⟨rfl, rfl, rfl, Nat.le_refl _, fun _ _ _ => rfl⟩
theorem grown_swap (W : World) (g i j : Nat) (u v : Value) : W.grownBy ((W.setCell ⟨g, i, none⟩ u).setCell ⟨g, j, none⟩ v) (some g) := grn_st (grn_st (grn_rfl W (some g)) i _) j _
theorem grown_dN (W : World) (q : Nat) (r : Option Nat) : W.grownBy (W.drewN q) r := ⟨rfl, rfl, rfl, Nat.le_refl _, fun _ _ _ => rfl⟩

set_option maxHeartbeats 1000000 in
theorem isNaN_any (x : Int) (w : World) : Calls Tryz.prog 204 #[.int .u32 x] w fun e w' => e = .returned (.bool false) ∧ w' = w := by
  go_enter Tryz.func204, Tryz.ntmps204
  go_wp2
  go_ret
  exact ⟨by simp, rfl⟩
set_option maxHeartbeats 1000000 in
theorem Less_any (x y : Int) (w : World) : Calls Tryz.prog 189 #[.int .u32 x, .int .u32 y] w fun e w' => e = .returned (.bool (ltInt x y)) ∧ w' = w := by
  go_enter Tryz.func189, Tryz.ntmps189
  go_wp2_with (go_at_call 204; refine (isNaN_any _ _).mono ?_; rintro e w' ⟨rfl, rfl⟩)
  go_ret
  exact ⟨rfl, rfl⟩
end Go.Proofs.YtakaadcpaeiccabGreat

namespace Go.Proofs.YtakaadcpaeiccabGreat
open Go.RowKit Go.Maps

end Go.Proofs.YtakaadcpaeiccabGreat
