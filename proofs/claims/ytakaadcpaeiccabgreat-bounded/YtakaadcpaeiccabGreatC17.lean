import Derived.Test.YtakaadcpaeiccabGreatC16
import Derived.Deep.QuietTactic
import Derived.BigQuiet
import Derived.Deep.Cut
import Derived.Deep.CutRange
namespace Go.Proofs.YtakaadcpaeiccabGreat
open Go.RowKit Go.Maps

theorem MapU.look_ok {W : World} {M : Nat} {f : Int → Option Int} {s : Nat} (h : MapU W M f s) {k : Int} (hk : U32 k) :
    (Instr.lookup 115 (.map (some M)) (.int .u32 k) true).run Tryz.prog W = .ok (.tuple #[.int .u32 ((f k).getD 0), .bool (f k).isSome]) W := by
  obtain ⟨D, h1, h2, h3⟩ := h
  obtain ⟨v, ps, hr, hv⟩ := h1.look_ok tu_law Tryz.underlying115 (tu_zero W) (plainElem_int Tryz.underlying34 (by decide)) hk.key
  obtain ⟨c, rfl, he, _⟩ := plainElem_int_inv Tryz.underlying34 hv
  rw [(h3 k hk).2] at he
  simp at he
  rw [hr, he.1, (h3 k hk).1]
theorem MapU.block {W W' : World} {M : Nat} {f : Int → Option Int} {s : Nat} (h : MapU W M f s) (he : W'.heap[M]? = W.heap[M]?) : MapU W' M f s := by
  obtain ⟨D, ⟨es, clock, hb, Ft, hs, hD⟩, h2, h3⟩ := h
  exact ⟨D, ⟨es, clock, he.trans hb, Ft, hs, hD⟩, h2, h3⟩
theorem MapU.obj {W : World} {M : Nat} {f : Int → Option Int} {s : Nat} (h : MapU W M f s) : ∃ es cl, W.heap[M]? = some (.map es cl) := by
  obtain ⟨D, ⟨es, cl, hm, _⟩, _⟩ := h
  exact ⟨es, cl, hm⟩

/-- A node's own cells. -/
structure NdV where
  lk : Int
  self : Int
  seq : Int
  sil : Int
  T : Nat
  Ms : Nat
  tn : Int
  own : Int
  Mo : Nat
  cnt : Int
  lreq : Int
  ldat : Int
  Msr : Nat
  Tm : Nat
  pc : Value
@[reducible] def ndBox (x : NdV) : Obj := .cells #[.int .i32 x.lk, .int .u32 0, .int .u32 x.self, .int .u32 x.seq, .int .u64 x.sil, .int .u32 x.lreq, .int .u32 x.ldat, .pointer (some ⟨x.T, 0, none⟩), .map (some x.Ms), .int .i64 x.tn, .int .u32 x.own, .map (some x.Mo), .int .i64 x.cnt, .map (some x.Msr), .pointer (some ⟨x.Tm, 0, none⟩), x.pc] 131
def NdB (N : Nat) (x : NdV) (W : World) : Prop := W.heap[N]? = some (ndBox x)
theorem NdB.cell {N : Nat} {x : NdV} {W : World} (h : NdB N x W) :
    W.cell? ⟨N, 0, none⟩ = some (.int .i32 x.lk) ∧ W.cell? ⟨N, 2, none⟩ = some (.int .u32 x.self) ∧ W.cell? ⟨N, 3, none⟩ = some (.int .u32 x.seq) ∧ W.cell? ⟨N, 4, none⟩ = some (.int .u64 x.sil) ∧ W.cell? ⟨N, 7, none⟩ = some (.pointer (some ⟨x.T, 0, none⟩)) ∧
    W.cell? ⟨N, 8, none⟩ = some (.map (some x.Ms)) ∧ W.cell? ⟨N, 9, none⟩ = some (.int .i64 x.tn) ∧ W.cell? ⟨N, 10, none⟩ = some (.int .u32 x.own) ∧ W.cell? ⟨N, 11, none⟩ = some (.map (some x.Mo)) ∧ W.cell? ⟨N, 12, none⟩ = some (.int .i64 x.cnt) :=
  ⟨cell_of_row W N 0 _ _ _ h, cell_of_row W N 2 _ _ _ h, cell_of_row W N 3 _ _ _ h, cell_of_row W N 4 _ _ _ h, cell_of_row W N 7 _ _ _ h, cell_of_row W N 8 _ _ _ h, cell_of_row W N 9 _ _ _ h, cell_of_row W N 10 _ _ _ h, cell_of_row W N 11 _ _ _ h, cell_of_row W N 12 _ _ _ h⟩
theorem NdB.more {N : Nat} {x : NdV} {W : World} (h : NdB N x W) :
    W.cell? ⟨N, 5, none⟩ = some (.int .u32 x.lreq) ∧ W.cell? ⟨N, 6, none⟩ = some (.int .u32 x.ldat) ∧ W.cell? ⟨N, 13, none⟩ = some (.map (some x.Msr)) ∧ W.cell? ⟨N, 14, none⟩ = some (.pointer (some ⟨x.Tm, 0, none⟩)) ∧ W.cell? ⟨N, 15, none⟩ = some x.pc :=
  ⟨cell_of_row W N 5 _ _ _ h, cell_of_row W N 6 _ _ _ h, cell_of_row W N 13 _ _ _ h, cell_of_row W N 14 _ _ _ h, cell_of_row W N 15 _ _ _ h⟩
theorem NdB.free {N : Nat} {x : NdV} {W : World} (h : NdB N x W) (i : Nat) : W.frozen? ⟨N, i, none⟩ = false := by
  unfold World.frozen?
  rw [show W.heap[(⟨N, i, none⟩ : Addr).block]? = some (ndBox x) from h]
  try rfl
theorem NdB.lt {N : Nat} {x : NdV} {W : World} (h : NdB N x W) : N < W.heap.size := (Array.getElem?_eq_some_iff.1 h).1
theorem NdB.block {N : Nat} {x : NdV} {W W' : World} (h : NdB N x W) (he : W'.heap[N]? = W.heap[N]?) : NdB N x W' := he.trans h
theorem NdB.later {N : Nat} {x : NdV} {W W' : World} (h : NdB N x W) (hb : Below W.heap.size W W') : NdB N x W' := h.block (hb.block N h.lt)
theorem NdB.kept {N : Nat} {x : NdV} {W W' : World} {r : Option Nat} (h : NdB N x W) (hg : W.grownBy W' r) (hr : r ≠ some N) : NdB N x W' := h.block (hg.block N h.lt (fun e => hr e.symm))
theorem NdB.setLk {N : Nat} {x : NdV} {W : World} (h : NdB N x W) (v : Int) : NdB N { x with lk := v } (W.setCell ⟨N, 0, none⟩ (.int .i32 v)) := by
  unfold NdB at h ⊢
  simp [World.setCell, Array.getElem?_modify, h]
theorem NdB.setSeq {N : Nat} {x : NdV} {W : World} (h : NdB N x W) (v : Int) : NdB N { x with seq := v } (W.setCell ⟨N, 3, none⟩ (.int .u32 v)) := by
  unfold NdB at h ⊢
  simp [World.setCell, Array.getElem?_modify, h]
theorem NdB.setSil {N : Nat} {x : NdV} {W : World} (h : NdB N x W) (v : Int) : NdB N { x with sil := v } (W.setCell ⟨N, 4, none⟩ (.int .u64 v)) := by
  unfold NdB at h ⊢
  simp [World.setCell, Array.getElem?_modify, h]
theorem NdB.setTn {N : Nat} {x : NdV} {W : World} (h : NdB N x W) (v : Int) : NdB N { x with tn := v } (W.setCell ⟨N, 9, none⟩ (.int .i64 v)) := by
  unfold NdB at h ⊢
  simp [World.setCell, Array.getElem?_modify, h]
theorem NdB.setOwn {N : Nat} {x : NdV} {W : World} (h : NdB N x W) (v : Int) : NdB N { x with own := v } (W.setCell ⟨N, 10, none⟩ (.int .u32 v)) := by
  unfold NdB at h ⊢
  simp [World.setCell, Array.getElem?_modify, h]
theorem NdB.setCnt {N : Nat} {x : NdV} {W : World} (h : NdB N x W) (v : Int) : NdB N { x with cnt := v } (W.setCell ⟨N, 12, none⟩ (.int .i64 v)) := by
  unfold NdB at h ⊢
  simp [World.setCell, Array.getElem?_modify, h]

theorem NdB.setLreq {N : Nat} {x : NdV} {W : World} (h : NdB N x W) (v : Int) : NdB N { x with lreq := v } (W.setCell ⟨N, 5, none⟩ (.int .u32 v)) := by
  unfold NdB at h ⊢
  simp [World.setCell, Array.getElem?_modify, h]
theorem NdB.setLdat {N : Nat} {x : NdV} {W : World} (h : NdB N x W) (v : Int) : NdB N { x with ldat := v } (W.setCell ⟨N, 6, none⟩ (.int .u32 v)) := by
  unfold NdB at h ⊢
  simp [World.setCell, Array.getElem?_modify, h]
theorem NdB.setPc {N : Nat} {x : NdV} {W : World} (h : NdB N x W) (v : Value) : NdB N { x with pc := v } (W.setCell ⟨N, 15, none⟩ v) := by
  unfold NdB at h ⊢
  simp [World.setCell, Array.getElem?_modify, h]

/-- What is new about the numbers. -/
def isNew (f : Int → Option Int) (x : Rt) : Bool := !(f x.dest).isSome || decide (x.seq > (f x.dest).getD 0)
def nwsS (st : (Int → Option Int) × List (Bool × Int × Int)) (x : Rt) : (Int → Option Int) × List (Bool × Int × Int) :=
  if isNew st.1 x then (updU st.1 x.dest (some x.seq), st.2 ++ [(false, x.dest, x.seq)]) else st
def nwsO (q own : Int) : List (Bool × Int × Int) := if q > own then [(true, 0, q)] else []
def newsP (q own : Int) (f : Int → Option Int) (A : List Rt) : (Int → Option Int) × List (Bool × Int × Int) := A.foldl nwsS (f, nwsO q own)
theorem newsP_take (q own : Int) (f : Int → Option Int) {A : List Rt} {k : Nat} {x : Rt} (h : A[k]? = some x) : newsP q own f (A.take (k + 1)) = nwsS (newsP q own f (A.take k)) x := by
  unfold newsP
  rw [List.take_add_one, h]
  simp
theorem newsP_len (q own : Int) (f : Int → Option Int) (A : List Rt) : (newsP q own f A).2.length ≤ A.length + 1 := by
  have h : ∀ (A : List Rt) (st : (Int → Option Int) × List (Bool × Int × Int)), (A.foldl nwsS st).2.length ≤ st.2.length + A.length := by
    intro A
    induction A with
    | nil => intro st; simp
    | cons y A ih =>
      intro st
      rw [List.foldl_cons]
      refine Nat.le_trans (ih _) ?_
      unfold nwsS
      split <;> simp <;> omega
  have := h A (f, nwsO q own)
  unfold newsP
  refine Nat.le_trans this ?_
  unfold nwsO
  split <;> simp <;> omega
theorem grown_Fx {S : Nat → Prop} {a b c : World} {r : Option Nat} (h : Fx S a b) (k : b.grownBy c r) (hr : ∀ i, i < a.heap.size → r = some i → S i) : Fx S a c :=
  h.trans (S' := fun i => r = some i) (Fx.grown k fun _ e => e) (fun i hi e => hr i hi e)
theorem LsR.at {base : Nat} {v : Value} {L : List (Rt × Value)} {W W' : World} (h : LsR base v L W) (hv : ∀ k, v.ownBlock = some k → W'.heap[k]? = W.heap[k]?) (hb : ∀ p ∈ L, ∀ k, p.2.ownBlock = some k → W'.heap[k]? = W.heap[k]?) : LsR base v L W' :=
  ⟨row_at h.row hv, fun p hp => row_at (h.bef p hp) (hb p hp)⟩
/-- A list of lines stays where something of another kind turns. -/
theorem LsR.grown {base : Nat} {v : Value} {L : List (Rt × Value)} {W W' : World} (h : LsR base v L W) {r : Option Nat} (hg : W.grownBy W' r) (hr : ∀ k, r = some k → ∃ o, W.heap[k]? = some o ∧ (∀ c, o ≠ .cells c 38 (0, 0)) ∧ ∀ c, o ≠ .cells c 34 (0, 0)) : LsR base v L W' := by
  refine h.at (fun k hk => hg.block k (h.row.lt k hk).2 fun e => ?_) (fun p hp k hk => hg.block k ((h.bef p hp).lt k hk).2 fun e => ?_)
  · obtain ⟨o, h1, h2, _⟩ := hr k e.symm
    exact row_not h.row h1 h2 hk
  · obtain ⟨o, h1, _, h3⟩ := hr k e.symm
    exact row_not (h.bef p hp) h1 h3 hk
end Go.Proofs.YtakaadcpaeiccabGreat

namespace Go.Proofs.YtakaadcpaeiccabGreat
open Go.RowKit Go.Maps

theorem nwsS_yes {st : (Int → Option Int) × List (Bool × Int × Int)} {x : Rt} (h : isNew st.1 x = true) : nwsS st x = (updU st.1 x.dest (some x.seq), st.2 ++ [(false, x.dest, x.seq)]) := by simp [nwsS, h]
theorem nwsS_no {st : (Int → Option Int) × List (Bool × Int × Int)} {x : Rt} (h : isNew st.1 x = false) : nwsS st x = st := by simp [nwsS, h]
theorem rtC_six (y : Rt) (u : Value) : rtC (y, u) = [.int .u32 y.dest, .int .u32 y.seq, .int .i64 y.hops, .int .u32 y.next, .bool y.valid, .int .u64 y.exp, u] := rfl
theorem nd_kind {N : Nat} {x : NdV} {W : World} (h : NdB N x W) : ∀ k, (some N : Option Nat) = some k → ∃ o, W.heap[k]? = some o ∧ (∀ c, o ≠ .cells c 38 (0, 0)) ∧ ∀ c, o ≠ .cells c 34 (0, 0) := by
  intro k hk
  cases hk
  exact ⟨_, h, fun c e => (by cases e), fun c e => (by cases e)⟩
theorem mo_kind {W : World} {M : Nat} {f : Int → Option Int} {s : Nat} (h : MapU W M f s) : ∀ k, (some M : Option Nat) = some k → ∃ o, W.heap[k]? = some o ∧ (∀ c, o ≠ .cells c 38 (0, 0)) ∧ ∀ c, o ≠ .cells c 34 (0, 0) := by
  intro k hk
  cases hk
  obtain ⟨es, cl, hm⟩ := h.obj
  exact ⟨_, hm, fun c e => (by cases e), fun c e => (by cases e)⟩
theorem row_kind {W : World} {base n : Nat} {v : Value} {cs : List Value} (h : W.ownsRow base 82 3 v n cs) : ∀ k, v.ownBlock = some k → ∃ o, W.heap[k]? = some o ∧ (∀ c, o ≠ .cells c 38 (0, 0)) ∧ ∀ c, o ≠ .cells c 34 (0, 0) := by
  intro k hk
  rcases h.2 with ⟨rfl, _⟩ | ⟨g, cap, cur, rfl, _, h2, _⟩
  · cases hk
  · simp only [Value.ownBlock, Option.some.injEq] at hk
    subst hk
    exact ⟨_, h2, fun c e => (by cases e), fun c e => (by cases e)⟩
theorem nd_mo {N : Nat} {x : NdV} {W : World} {M : Nat} {f : Int → Option Int} {s : Nat} (h : NdB N x W) (hm : MapU W M f s) : N ≠ M := fun e => by
  obtain ⟨es, cl, hM⟩ := hm.obj
  rw [← e, show W.heap[N]? = _ from h] at hM
  cases hM
/-- The greater one of two numbers. -/
def mxO (q own : Int) : Int := if q > own then q else own
theorem row_mo {W : World} {base n : Nat} {v : Value} {cs : List Value} (h : W.ownsRow base 82 3 v n cs) {M : Nat} {f : Int → Option Int} {s : Nat} (hm : MapU W M f s) : v.ownBlock ≠ some M := by
  obtain ⟨es, cl, hM⟩ := hm.obj
  exact row_not h hM (fun c e => (by cases e))
theorem row_nd {W : World} {base n : Nat} {v : Value} {cs : List Value} (h : W.ownsRow base 82 3 v n cs) {N : Nat} {x : NdV} (hN : NdB N x W) : v.ownBlock ≠ some N :=
  row_not h hN (fun c e => (by cases e))

set_option maxRecDepth 100000 in
set_option maxHeartbeats 4000000 in
theorem news_any (N : Nat) (x : NdV) (q : Int) (f : Int → Option Int) (sz : Nat) (v : Value) (L : List (Rt × Value)) (A : List Rt) (hA : L.map (·.1) = A) (hok : ∀ y ∈ A, y.Ok) (hln : A.length ≤ 8) (hcnt : 0 ≤ x.cnt ∧ x.cnt ≤ 1000000) (hsz : sz ≤ 1000000) (w : World) (hN : NdB N x w) (hm : MapU w x.Mo f sz) (hl : LsR 0 v L w) :
    Calls Tryz.prog 104 #[.pointer (some ⟨N, 10, none⟩), .int .u32 q, v] w fun e w' => ∃ v' sz', e = .returned v' ∧ w'.ownsRow w.heap.size 82 3 v' (newsP q x.own f A).2.length (RC (newsP q x.own f A).2) ∧ NdB N { x with own := mxO q x.own, cnt := x.cnt + (newsP q x.own f A).2.length } w' ∧ MapU w' x.Mo (newsP q x.own f A).1 sz' ∧ sz' ≤ sz + 8 ∧ Fx (fun k => k = N ∨ k = x.Mo) w w' := by
  obtain ⟨i0, hi, hz0, hz1, hz2⟩ := info_parts info_rec
  have hNM := nd_mo hN hm
  have hLl : Hid (L.length = A.length) := by
    show _ = _
    rw [← hA]; simp
  obtain ⟨ao, c, rfl, _⟩ := row_form hl.row
  have hNr : w.heap.size ≤ w.heap.size := Nat.le_refl _
  obtain ⟨n0, n2, n3, n4, n5, n6, n7, n8, n9, n10⟩ := hN.cell
  have f8 := hN.free 10
  go_enter Tryz.func104, Tryz.ntmps104
  go_upto_if 17 with (fail)
  go_cut [7] from 17 to 26 (fun lv W => W.ownsRow w.heap.size 82 3 lv (nwsO q x.own).length (RC (nwsO q x.own)) ∧ NdB N { x with own := mxO q x.own } W ∧ MapU W x.Mo f sz ∧ LsR 0 (.slice ao L.length c) L W ∧ Fx (fun k => k = N ∨ k = x.Mo) w W)
  case first =>
    by_cases hq : q > x.own
    · have hg1 : w.grownBy (w.setCell ⟨N, 10, none⟩ (.int .u32 q)) (some N) := grown_cellOf (grown_self _ (some N)) 10 _
      have hN1 := hN.setOwn q
      have hm1 := hm.kept hg1 (by simpa using Ne.symm hNM)
      have hl1 := hl.grown hg1 (nd_kind hN)
      have hF1 : Fx (fun k => k = N ∨ k = x.Mo) w (w.setCell ⟨N, 10, none⟩ (.int .u32 q)) := Fx.grown hg1 (fun k e => by cases e; exact .inl rfl)
      have hsz1 := hg1.size
      go_upto_region 4 with (fail)
      generalize World.setCell _ _ _ = W1 at hN1 hm1 hl1 hF1 hsz1 ⊢
      clear n0 n2 n3 n4 n5 n6 n7 n8 n9 n10 f8 hg1
      have hr0 : W1.ownsRow w.heap.size 82 3 (.slice none 0 0) 0 (RC []) := ⟨rfl, .inl ⟨rfl, rfl⟩⟩
      have hb3 : Below W1.heap.size W1 (W1.alloc (recBox true 0 q)) := (Below.refl _ _).alloc (Nat.le_refl _) _
      have hcr := cells_rec W1 true 0 q
      dsimp only [recBox] at hb3 hcr
      go_wp2_with (at_builtin; refine wpList_append_own_at _ rfl _ _ 79 rfl w.heap.size 82 i0 (.agg #[.bool false, .int .u32 0, .int .u32 0]) 3 12 Tryz.underlying79 hi hz0 hz1 hz2 rfl (by decide) (.slice none 0 0) 0 (RC []) rfl (hr0.alloc _) ⟨W1.heap.size, 0, none⟩ 1 1 (RC [(true, 0, q)]) rfl rfl hcr (one_rec true 0 q) (by unfold maxLen; omega) (by omega) ?c3 ?_)
      case c3 => simp; omega
      intro v3 w3 ho3 hg3 _ _
      have hno : nwsO q x.own = [(true, 0, q)] := by simp [nwsO, hq]
      have hif : mxO q x.own = q := by simp [mxO, hq]
      have hNn : Hid (NdB N { x with own := q } w3) := (hN1.later hb3).kept hg3 (by simp [Value.ownBlock])
      have hmn := (hm1.block (hb3.block _ hm1.lt)).kept hg3 (by simp [Value.ownBlock])
      have hln3 := (hl1.later hb3).grown hg3 (by intro k hk; simp [Value.ownBlock] at hk)
      have hFn := grown_Fx (hF1.trans (Fx.below (S := fun _ => False) hb3) (fun _ _ h => h.elim)) hg3 (by intro i _ hk; simp [Value.ownBlock] at hk)
      clear hN1 hm1 hl1 hF1 hb3 hcr hg3
      go_wp2_with fail
      go_meet
      rw [hno, hif]
      exact ⟨ho3, hNn.out, hmn, hln3, hFn⟩
    · have hno : nwsO q x.own = [] := by simp [nwsO, hq]
      have hif : mxO q x.own = x.own := by simp [mxO, hq]
      go_wp2_with fail
      go_meet
      rw [hno, hif]
      exact ⟨⟨rfl, .inl ⟨rfl, rfl⟩⟩, hN, hm, hl, Fx.refl _ _⟩
  case rest =>
    clear n0 n2 n3 n4 n5 n6 n7 n8 n9 n10 f8 hl hN hm
    obtain ⟨ho, hN, hm, hl, hF⟩ := hcut
    rename_i lv
    have hl8 : L.length ≤ 8 := by rw [hLl.out]; exact hln
    have hlO : (nwsO q x.own).length ≤ 1 := by unfold nwsO; split <;> simp
    have hP0 : Hid (newsP q x.own f (A.take 0) = (f, nwsO q x.own)) := by
      show _ = _
      simp [newsP]
    have hPA : Hid (newsP q x.own f (A.take L.length) = newsP q x.own f A) := by
      show _ = _
      rw [hLl.out, List.take_length]
    generalize hyo : mxO q x.own = y at hN
    have hyo' := (show Hid _ from hyo)
    clear hyo
    have hsz0 := hF.size
    go_wp2_with fail
    go_loopw [7, 29] (fun lv i wr => ∃ (k sk : Nat), k ≤ L.length ∧ i = .int .i64 k ∧ wr.ownsRow w.heap.size 82 3 lv (newsP q x.own f (A.take k)).2.length (RC (newsP q x.own f (A.take k)).2) ∧ NdB N { x with own := y } wr ∧ MapU wr x.Mo (newsP q x.own f (A.take k)).1 sk ∧ sk ≤ sz + k ∧ LsR 0 (.slice ao L.length c) L wr ∧ Fx (fun k => k = N ∨ k = x.Mo) w wr) (fun _ i _ => L.length - (intOf i).toNat)
    case atStart => exact ⟨0, sz, Nat.zero_le _, rfl, by rw [hP0.out]; exact ho, hN, by rw [hP0.out]; exact hm, by omega, hl, hF⟩
    case round =>
      clear ho hN hm hl hF hsz0
      obtain ⟨k, sk, hk, rfl, ho, hN, hm, hsk, hl, hF⟩ := hrel
      by_cases hlt : k < L.length
      · have hki : (k : Int) < (L.length : Int) := by omega
        obtain ⟨⟨yy, u⟩, hp⟩ : ∃ p, L[k]? = some p := ⟨_, List.getElem?_eq_getElem hlt⟩
        have hx : A[k]? = some yy := by rw [← hA, List.getElem?_map, hp]; rfl
        have hyok := hok yy (List.mem_of_getElem? hx)
        have hst : Hid (newsP q x.own f (A.take (k + 1)) = nwsS (newsP q x.own f (A.take k)) yy) := newsP_take q x.own f hx
        have hlen : (newsP q x.own f (A.take k)).2.length ≤ 9 := by
          have h1 := newsP_len q x.own f (A.take k)
          have h2 : (A.take k).length ≤ 8 := by rw [List.length_take]; omega
          omega
        obtain ⟨ao', c', he, hH⟩ := row_form hl.row
        cases he
        have hat := fun {i : Nat} (hi : i < 7) => RtC_at hp hi
        obtain ⟨au, cu, hu, _⟩ := row_form (hl.bef _ (List.mem_of_getElem? hp))
        dsimp only at hu
        subst hu
        rw [rtC_six] at hat
        obtain ⟨b1, o1, rfl, hj1⟩ := hH (k * 7 + 0) _ (hat (i := 0) (by decide))
        have c0 := hH.one rfl (hat (i := 0) (by decide))
        have c1 := hH.one rfl (hat (i := 1) (by decide))
        have c2 := hH.one rfl (hat (i := 2) (by decide))
        have c3 := hH.one rfl (hat (i := 3) (by decide))
        have c4 := hH.one rfl (hat (i := 4) (by decide))
        have c5 := hH.one rfl (hat (i := 5) (by decide))
        have c6 := hH.one rfl (hat (i := 6) (by decide))
        rw [Nat.add_zero] at c0
        rw [← Nat.add_assoc] at c1 c2 c3 c4 c5 c6
        have hbA : Below wr.heap.size wr (wr.alloc (rtBox yy (.slice au yy.bef.length cu))) := (Below.refl _ _).alloc (Nat.le_refl _) _
        have hX := LnB.new yy (.slice au yy.bef.length cu) wr
        have ho1 := step_append_kept ho hbA
        have hN1 := hN.later hbA
        have hm1 := hm.block (hbA.block _ hm.lt)
        have hl1 := hl.later hbA
        have hF1 := hF.trans (Fx.below (S := fun _ => False) hbA) (fun _ _ h => h.elim)
        dsimp only [rtBox] at hX ho1 hN1 hm1 hl1 hF1
        clear hj1 hat hH hp hx ho hN hm hl hF hbA
        generalize newsP q x.own f (A.take k) = st at hst ho1 hm1 hlen
        obtain ⟨fk, lk⟩ := st
        dsimp only at ho1 hm1 hlen
        go_upto_region 8 with (fail)
        generalize wr.heap.size = B1 at hX ⊢
        generalize World.alloc _ _ = W1 at hX ho1 hN1 hm1 hl1 hF1 ⊢
        clear c0 c1 c2 c3 c4 c5 c6
        obtain ⟨p0, p1, p2, p3, p4, p5, p6⟩ := hX.cell
        obtain ⟨n0, n2, n3, n4, n5, n6, n7, n8, n9, n10⟩ := hN1.cell
        dsimp only at n0 n2 n3 n4 n5 n6 n7 n8 n9 n10
        have hk0 := hm1.look_ok hyok.dest
        have hk1 := (show MapU W1.drew _ _ _ from hm1).look_ok hyok.dest
        generalize hod : fk yy.dest = od at hk0 hk1
        have hod' := (show Hid _ from hod)
        clear hod
        go_region
        clear hk0 hk1 p0 p1 p2 p3 p4 p5 p6 n0 n2 n3 n4 n5 n6 n7 n8 n9 n10
        have hb2 : Below W1.heap.size W1 W1.drew := (Below.refl _ _).drew
        replace hX := hX.later hb2
        replace ho1 := step_append_kept ho1 hb2
        replace hN1 := hN1.later hb2
        replace hm1 := hm1.block (hb2.block _ hm1.lt)
        replace hl1 := hl1.later hb2
        replace hF1 := hF1.trans (Fx.below (S := fun _ => False) hb2) (fun _ _ h => h.elim)
        clear hb2
        generalize World.drew _ = W2 at hX ho1 hN1 hm1 hl1 hF1 ⊢
        obtain ⟨p0, p1, p2, p3, p4, p5, p6⟩ := hX.cell
        obtain ⟨n0, n2, n3, n4, n5, n6, n7, n8, n9, n10⟩ := hN1.cell
        dsimp only at n0 n2 n3 n4 n5 n6 n7 n8 n9 n10
        have hnew : isNew fk yy = (!od.isSome || decide (yy.seq > od.getD 0)) := by unfold isNew; rw [hod'.out]
        cases hb : isNew fk yy
        · rw [nwsS_no hb] at hst
          rw [hb] at hnew
          have hs : od.isSome = true := by
            cases od with
            | none => cases hnew
            | some z => rfl
          obtain ⟨z, rfl⟩ := Option.isSome_iff_exists.1 hs
          have hz : ¬ (z < yy.seq) := by simpa using hnew.symm
          clear hnew hs hb hod'
          simp only [Option.isSome_some, Option.getD_some]
          go_wp2_with fail
          go_roundw
          case rel => exact ⟨k + 1, sk, by omega, by go_num, by rw [hst.out]; exact ho1, hN1, by rw [hst.out]; exact hm1, by omega, hl1, hF1⟩
          case measure => simp [intOf]; omega
        · rw [nwsS_yes hb] at hst
          rw [hb] at hnew
          clear hb hod'
          obtain ⟨W3, hr3, hm3, hg3⟩ := (show MapU W2.drew _ _ _ from hm1).put (by unfold maxLen; omega) hyok.dest (v := yy.seq) hyok.seq
          have hg3' : W2.grownBy W3 (some x.Mo) := ⟨hg3.os, hg3.tape, hg3.output, hg3.size, hg3.block⟩
          have hX3 : LnB B1 yy (.slice au yy.bef.length cu) W3 := hX.block (hg3'.block _ hX.lt (fun e => by
            cases e
            obtain ⟨es, cl, hM⟩ := hm1.obj
            rw [show W2.heap[x.Mo]? = _ from hX] at hM
            cases hM))
          have ho3 : W3.ownsRow w.heap.size 82 3 u7 lk.length (RC lk) := ho1.kept hg3' (.inr (row_mo ho1 hm1))
          have hN3 := hN1.kept hg3' (by simpa using Ne.symm hNM)
          have hl3 := hl1.grown hg3' (mo_kind hm1)
          have hF3 := grown_Fx hF1 hg3' (fun i _ e => by cases e; exact .inr rfl)
          have hsk3 : (if (fk yy.dest).isSome then sk else sk + 1) ≤ sz + (k + 1) := by split <;> omega
          generalize (if (fk yy.dest).isSome then sk else sk + 1) = sk3 at hm3 hsk3
          clear ho1 hN1 hm1 hl1 hF1 hg3 hg3' hX
          have hla := ho3.lt
          have hb3 : Below W3.heap.size W3 (W3.alloc (recBox false yy.dest yy.seq)) := (Below.refl _ _).alloc (Nat.le_refl _) _
          have hcr := cells_rec W3 false yy.dest yy.seq
          have hs3 := hF3.size
          dsimp only [recBox] at hb3 hcr
          have hcond : od = none ∨ ∃ z, od = some z ∧ z < yy.seq := by
            cases od with
            | none => exact .inl rfl
            | some z => exact .inr ⟨z, rfl, by simpa using hnew.symm⟩
          clear hnew
          rcases hcond with rfl | ⟨z, rfl, hz⟩
          · simp only [Option.isSome_none, Option.getD_none]
            go_wp2_with fail
            go_region
            clear n0 n2 n3 n4 n5 n6 n7 n8 n9 n10 p0 p1 p2 p3 p4 p5 p6
            obtain ⟨p0, p1, p2, p3, p4, p5, p6⟩ := hX3.cell
            go_wp2_with (at_builtin; refine wpList_append_own_at _ rfl _ _ 79 rfl w.heap.size 82 i0 (.agg #[.bool false, .int .u32 0, .int .u32 0]) 3 12 Tryz.underlying79 hi hz0 hz1 hz2 rfl (by decide) u7 lk.length (RC lk) rfl (ho3.alloc _) ⟨W3.heap.size, 0, none⟩ 1 1 (RC [(false, yy.dest, yy.seq)]) rfl rfl hcr (one_rec false yy.dest yy.seq) (by unfold maxLen; omega) (by omega) ?c3 ?_)
            case c3 => simp; omega
            intro v4 W4 ho4 hg4 _ _
            have hN4 := (hN3.later hb3).kept hg4 (row_nd ho3 hN3)
            have hm4 := (hm3.block (hb3.block _ hm3.lt)).kept hg4 (Ne.symm (row_mo ho3 hm3))
            have hl4 := (hl3.later hb3).grown hg4 (fun k hk => row_kind (ho3.alloc _) k hk)
            have hF4 := grown_Fx (hF3.trans (Fx.below (S := fun _ => False) hb3) (fun _ _ h => h.elim)) hg4 (fun i hi e => by have := (hla i e).1; omega)
            clear hN3 hm3 hl3 hF3 hb3 hcr hg4 ho3 hX3 hla p0 p1 p2 p3 p4 p5 p6
            go_wp2_with fail
            go_roundw
            case rel => exact ⟨k + 1, sk3, by omega, by go_num, by rw [hst.out, List.length_append, RC_append]; exact ho4, hN4, by rw [hst.out]; exact hm4, hsk3, hl4, hF4⟩
            case measure => simp [intOf]; omega
          · simp only [Option.isSome_some, Option.getD_some]
            go_wp2_with fail
            go_region
            clear n0 n2 n3 n4 n5 n6 n7 n8 n9 n10 p0 p1 p2 p3 p4 p5 p6
            obtain ⟨p0, p1, p2, p3, p4, p5, p6⟩ := hX3.cell
            go_wp2_with (at_builtin; refine wpList_append_own_at _ rfl _ _ 79 rfl w.heap.size 82 i0 (.agg #[.bool false, .int .u32 0, .int .u32 0]) 3 12 Tryz.underlying79 hi hz0 hz1 hz2 rfl (by decide) u7 lk.length (RC lk) rfl (ho3.alloc _) ⟨W3.heap.size, 0, none⟩ 1 1 (RC [(false, yy.dest, yy.seq)]) rfl rfl hcr (one_rec false yy.dest yy.seq) (by unfold maxLen; omega) (by omega) ?c3 ?_)
            case c3 => simp; omega
            intro v4 W4 ho4 hg4 _ _
            have hN4 := (hN3.later hb3).kept hg4 (row_nd ho3 hN3)
            have hm4 := (hm3.block (hb3.block _ hm3.lt)).kept hg4 (Ne.symm (row_mo ho3 hm3))
            have hl4 := (hl3.later hb3).grown hg4 (fun k hk => row_kind (ho3.alloc _) k hk)
            have hF4 := grown_Fx (hF3.trans (Fx.below (S := fun _ => False) hb3) (fun _ _ h => h.elim)) hg4 (fun i hi e => by have := (hla i e).1; omega)
            clear hN3 hm3 hl3 hF3 hb3 hcr hg4 ho3 hX3 hla p0 p1 p2 p3 p4 p5 p6
            go_wp2_with fail
            go_roundw
            case rel => exact ⟨k + 1, sk3, by omega, by go_num, by rw [hst.out, List.length_append, RC_append]; exact ho4, hN4, by rw [hst.out]; exact hm4, hsk3, hl4, hF4⟩
            case measure => simp [intOf]; omega
      · obtain rfl : k = L.length := by omega
        rw [hPA.out] at ho hm
        have hcl : (newsP q x.own f A).2.length ≤ 9 := Nat.le_trans (newsP_len q x.own f A) (by omega)
        obtain ⟨n0, n2, n3, n4, n5, n6, n7, n8, n9, n10⟩ := hN.cell
        have f10 := hN.free 12
        dsimp only at n0 n2 n3 n4 n5 n6 n7 n8 n9 n10
        have hg : wr.grownBy (wr.setCell ⟨N, 12, none⟩ (.int .i64 (x.cnt + (newsP q x.own f A).2.length))) (some N) := grown_cellOf (grown_self _ (some N)) 12 _
        have hN5 := hN.setCnt (x.cnt + (newsP q x.own f A).2.length)
        have hm5 := hm.kept hg (by simpa using Ne.symm hNM)
        have ho5 : (wr.setCell ⟨N, 12, none⟩ (.int .i64 (x.cnt + (newsP q x.own f A).2.length))).ownsRow w.heap.size 82 3 u7 (newsP q x.own f A).2.length (RC (newsP q x.own f A).2) := ho.kept hg (.inr (row_nd ho hN))
        have hF5 := grown_Fx hF hg (fun i _ e => by cases e; exact .inl rfl)
        obtain ⟨a7, c7, rfl, _⟩ := row_form ho
        have hwr : wrap64 (x.cnt + (newsP q x.own f A).2.length) = x.cnt + (newsP q x.own f A).2.length := by unfold wrap64; omega
        clear ho hN hm hl hF hg
        go_wp2
        go_ret
        rw [hyo'.out]
        exact ⟨_, rfl, ho5, hN5, _, hm5, by omega, hF5⟩
end Go.Proofs.YtakaadcpaeiccabGreat

namespace Go.Proofs.YtakaadcpaeiccabGreat
open Go.RowKit Go.Maps

/-- 'append' of a row onto a row of the call's own, as one step of a region that draws its order. -/
theorem step_append_rows {P : Program} {ops : Array Oper} {o : Oper} {a : Act} {w : World} {K : Act → World → Prop} {Q : Exit → Act → World → Prop} {E : Prop}
    (hg : o.guard = none) (s x : Operand) (t : TypeId) (hop : o.op = Op.call { callee := Callee.builtin Builtin.append, args := #[s, x], argTypes := #[t, t] })
    (base : Nat) (e : TypeId) (i : TypeInfo) (z : Value) (size bytes : Nat) (h1 : P.underlying t = some (.slice e)) (h2 : P.info? e = some i) (h3 : i.zero = some z) (h4 : i.size = size) (h5 : i.bytes = bytes) (h6 : z.cells.size = size) (h7 : 0 < size)
    (v : Value) (n : Nat) (xs : List Value) (hs : a.eval s = v) (hown : w.ownsRow base e size v n xs)
    (base2 : Nat) (v2 : Value) (m : Nat) (ys : List Value) (hx : a.eval x = v2) (hown2 : w.ownsRow base2 e size v2 m ys) (h1c : ∀ u ∈ ys, u.oneCell' = true)
    (b1 : n + m ≤ maxLen) (b2 : (n + m) * bytes ≤ 140737488355328) (hbase : base ≤ w.heap.size)
    (hK : ∀ v' w', w'.ownsRow base e size v' (n + m) (xs ++ ys) → w.grownBy w' v.ownBlock → K (a.put o.dst v') w') :
    if Region.wanted o (yielded ops a.tmps) = true then Oper.wp P o a w K Q else E := by
  have hw : Region.wanted o (yielded ops a.tmps) = true := by simp [Region.wanted, hg]
  rcases hown2.2 with ⟨rfl, rfl⟩ | ⟨g, cap, cur, rfl, _, hgb, _⟩
  · rw [if_pos hw]
    have hrun := run_append_owned_none (P := P) (w := w) base t o.type e i size h1 h2 v n xs hown
    unfold Oper.wp
    simp [execOp, hop, resolve, invoke, builtin, hs, hx, hrun, Result.andThen]
    have hy : ys = [] := List.eq_nil_of_length_eq_zero (by have := hown2.1; simpa using this)
    subst hy
    exact hK v w (by simpa using hown) ⟨rfl, rfl, rfl, Nat.le_refl _, fun _ _ _ => rfl⟩
  · exact step_append_own hg s x t hop base e i z size bytes h1 h2 h3 h4 h5 h6 h7 v n xs hs hown ⟨g, 0, none⟩ m cap ys hx hown2.1 (fun j u hj => by
      obtain ⟨b', o', k1, _, k2⟩ := HoldsC.ofRow hown2 j u hj
      simp only [Option.some.injEq, Addr.mk.injEq, and_true] at k1
      obtain ⟨rfl, rfl⟩ := k1
      have hadd : (⟨g, 0, none⟩ : Addr).add j = ⟨g, 0 + j, none⟩ := by unfold Addr.add; split <;> simp_all
      rw [hadd]
      exact k2) h1c b1 b2 hbase hK

/-- What a node does in one call: its cells. -/
structure AcV where
  now : Int
  wrt : Value
  jrn : ByteArray
  rep : Bool
  frm : Value
  cam : Value
  drp : Value
@[reducible] def acBox (a : AcV) : Obj := .cells #[.int .u64 a.now, a.wrt, .string a.jrn, .bool a.rep, a.frm, a.cam, a.drp] 134
def AcB (B : Nat) (a : AcV) (W : World) : Prop := W.heap[B]? = some (acBox a)
theorem AcB.cell {B : Nat} {a : AcV} {W : World} (h : AcB B a W) :
    W.cell? ⟨B, 0, none⟩ = some (.int .u64 a.now) ∧ W.cell? ⟨B, 1, none⟩ = some a.wrt ∧ W.cell? ⟨B, 2, none⟩ = some (.string a.jrn) ∧ W.cell? ⟨B, 3, none⟩ = some (.bool a.rep) ∧ W.cell? ⟨B, 4, none⟩ = some a.frm ∧ W.cell? ⟨B, 5, none⟩ = some a.cam ∧ W.cell? ⟨B, 6, none⟩ = some a.drp :=
  ⟨cell_of_row W B 0 _ _ _ h, cell_of_row W B 1 _ _ _ h, cell_of_row W B 2 _ _ _ h, cell_of_row W B 3 _ _ _ h, cell_of_row W B 4 _ _ _ h, cell_of_row W B 5 _ _ _ h, cell_of_row W B 6 _ _ _ h⟩
theorem AcB.free {B : Nat} {a : AcV} {W : World} (h : AcB B a W) (i : Nat) : W.frozen? ⟨B, i, none⟩ = false := by
  unfold World.frozen?
  rw [show W.heap[(⟨B, i, none⟩ : Addr).block]? = some (acBox a) from h]
  try rfl
theorem AcB.lt {B : Nat} {a : AcV} {W : World} (h : AcB B a W) : B < W.heap.size := (Array.getElem?_eq_some_iff.1 h).1
theorem AcB.block {B : Nat} {a : AcV} {W W' : World} (h : AcB B a W) (he : W'.heap[B]? = W.heap[B]?) : AcB B a W' := he.trans h
theorem AcB.setRec {B : Nat} {a : AcV} {W : World} (h : AcB B a W) (v : Value) : AcB B { a with wrt := v } (W.setCell ⟨B, 1, none⟩ v) := by
  unfold AcB at h ⊢
  simp [World.setCell, Array.getElem?_modify, h]
theorem AcB.setJrn {B : Nat} {a : AcV} {W : World} (h : AcB B a W) (v : ByteArray) : AcB B { a with jrn := v } (W.setCell ⟨B, 2, none⟩ (.string v)) := by
  unfold AcB at h ⊢
  simp [World.setCell, Array.getElem?_modify, h]
theorem AcB.setRep {B : Nat} {a : AcV} {W : World} (h : AcB B a W) (v : Bool) : AcB B { a with rep := v } (W.setCell ⟨B, 3, none⟩ (.bool v)) := by
  unfold AcB at h ⊢
  simp [World.setCell, Array.getElem?_modify, h]
theorem AcB.setFrm {B : Nat} {a : AcV} {W : World} (h : AcB B a W) (v : Value) : AcB B { a with frm := v } (W.setCell ⟨B, 4, none⟩ v) := by
  unfold AcB at h ⊢
  simp [World.setCell, Array.getElem?_modify, h]
theorem AcB.setCam {B : Nat} {a : AcV} {W : World} (h : AcB B a W) (v : Value) : AcB B { a with cam := v } (W.setCell ⟨B, 5, none⟩ v) := by
  unfold AcB at h ⊢
  simp [World.setCell, Array.getElem?_modify, h]
theorem AcB.setDrp {B : Nat} {a : AcV} {W : World} (h : AcB B a W) (v : Value) : AcB B { a with drp := v } (W.setCell ⟨B, 6, none⟩ v) := by
  unfold AcB at h ⊢
  simp [World.setCell, Array.getElem?_modify, h]

def FrC (L : List (Int × ByteArray)) : List Value := L.flatMap fun x => [.int .u32 x.1, .string x.2]
def DrC (L : List Int) : List Value := L.map fun x => .int .i64 x
theorem FrC_append (a b : List (Int × ByteArray)) : FrC (a ++ b) = FrC a ++ FrC b := by simp [FrC]
theorem DrC_append (a b : List Int) : DrC (a ++ b) = DrC a ++ DrC b := by simp [DrC]
/-- What a node does in one call, in memory. -/
structure AcM (B base : Nat) (a : AcV) (nws : List (Bool × Int × Int)) (frs cms : List (Int × ByteArray)) (drs : List Int) (W : World) : Prop where
  blk : AcB B a W
  wrt : W.ownsRow base 82 3 a.wrt nws.length (RC nws)
  frm : W.ownsRow base 77 2 a.frm frs.length (FrC frs)
  cam : W.ownsRow base 56 2 a.cam cms.length (FrC cms)
  drp : W.ownsRow base 195 1 a.drp drs.length (DrC drs)
/-- The blocks of what a node does. -/
def AcIn (B : Nat) (a : AcV) (k : Nat) : Prop := k = B ∨ a.wrt.ownBlock = some k ∨ a.frm.ownBlock = some k ∨ a.cam.ownBlock = some k ∨ a.drp.ownBlock = some k
theorem AcM.kept {B base : Nat} {a : AcV} {nws : List (Bool × Int × Int)} {frs cms : List (Int × ByteArray)} {drs : List Int} {W W' : World} (h : AcM B base a nws frs cms drs W) (he : ∀ k, AcIn B a k → W'.heap[k]? = W.heap[k]?) : AcM B base a nws frs cms drs W' :=
  ⟨h.blk.block (he B (.inl rfl)), row_at h.wrt fun k hk => he k (.inr (.inl hk)), row_at h.frm fun k hk => he k (.inr (.inr (.inl hk))), row_at h.cam fun k hk => he k (.inr (.inr (.inr (.inl hk)))), row_at h.drp fun k hk => he k (.inr (.inr (.inr (.inr hk))))⟩
theorem AcM.lt {B base : Nat} {a : AcV} {nws : List (Bool × Int × Int)} {frs cms : List (Int × ByteArray)} {drs : List Int} {W : World} (h : AcM B base a nws frs cms drs W) {k : Nat} (hk : AcIn B a k) : k < W.heap.size := by
  rcases hk with rfl | hk | hk | hk | hk
  · exact h.blk.lt
  · exact (h.wrt.lt k hk).2
  · exact (h.frm.lt k hk).2
  · exact (h.cam.lt k hk).2
  · exact (h.drp.lt k hk).2
theorem AcM.later {B base : Nat} {a : AcV} {nws : List (Bool × Int × Int)} {frs cms : List (Int × ByteArray)} {drs : List Int} {W W' : World} (h : AcM B base a nws frs cms drs W) (hb : Below W.heap.size W W') : AcM B base a nws frs cms drs W' :=
  h.kept fun k hk => hb.block k (h.lt hk)
/-- The object is of none of the kinds of what a node does. -/
def offA (o : Obj) : Prop := (∀ c, o ≠ .cells c 134 (0, 0)) ∧ (∀ c, o ≠ .cells c 82 (0, 0)) ∧ (∀ c, o ≠ .cells c 77 (0, 0)) ∧ (∀ c, o ≠ .cells c 56 (0, 0)) ∧ ∀ c, o ≠ .cells c 195 (0, 0)
theorem AcM.not {B base : Nat} {a : AcV} {nws : List (Bool × Int × Int)} {frs cms : List (Int × ByteArray)} {drs : List Int} {W : World} (h : AcM B base a nws frs cms drs W) {k : Nat} {o : Obj} (ho : W.heap[k]? = some o) (hk : offA o) : ¬ AcIn B a k := by
  obtain ⟨h1, h2, h3, h4, h5⟩ := hk
  rintro (rfl | hk | hk | hk | hk)
  · rw [show W.heap[k]? = _ from h.blk] at ho
    exact h1 _ (Option.some.inj ho).symm
  · exact row_not h.wrt ho h2 hk
  · exact row_not h.frm ho h3 hk
  · exact row_not h.cam ho h4 hk
  · exact row_not h.drp ho h5 hk
theorem nd_offA (x : NdV) : offA (ndBox x) := ⟨fun c e => (by cases e), fun c e => (by cases e), fun c e => (by cases e), fun c e => (by cases e), fun c e => (by cases e)⟩
theorem map_offA (es : Array MapEntry) (cl : Nat) : offA (.map es cl) := ⟨fun c e => (by cases e), fun c e => (by cases e), fun c e => (by cases e), fun c e => (by cases e), fun c e => (by cases e)⟩
/-- The object is of none of a table's kinds. -/
def offT (o : Obj) : Prop := (∀ c, o ≠ .cells c 158 (0, 0)) ∧ (∀ c, o ≠ .cells c 38 (0, 0)) ∧ ∀ c, o ≠ .cells c 34 (0, 0)
theorem MT.not {me : Int} {T M : Nat} {f : Int → Option Nat} {g : Int → Value} {A : List Rt} {W : World} (h : MT me T M f g A W) {k : Nat} (hM : k ≠ M) {o : Obj} (ho : W.heap[k]? = some o) (hk : offT o) : ¬ TIn T M f g A k := by
  obtain ⟨h1, h2, h3⟩ := hk
  rintro (rfl | rfl | ⟨x, hx, hk | hk⟩)
  · rw [show W.heap[k]? = _ from h.blk] at ho
    exact h1 _ (Option.some.inj ho).symm
  · exact hM rfl
  · obtain ⟨B, p1, p2⟩ := h.ln x hx
    rw [p1] at hk
    cases hk
    rw [show W.heap[k]? = _ from p2] at ho
    exact h2 _ (Option.some.inj ho).symm
  · exact row_not (h.row x hx) ho h3 hk
theorem MT.keptFx {me : Int} {T M : Nat} {f : Int → Option Nat} {g : Int → Value} {A : List Rt} {S : Nat → Prop} {W W' : World} (h : MT me T M f g A W) (hf : Fx S W W') (hS : ∀ k, S k → k < W.heap.size → k ≠ M ∧ ∃ o, W.heap[k]? = some o ∧ offT o) : MT me T M f g A W' :=
  h.kept fun k hk => hf.block k (h.lt hk) fun hs => by
    obtain ⟨h1, o, h2, h3⟩ := hS k hs (h.lt hk)
    exact h.not h1 h2 h3 hk
theorem nd_offT (x : NdV) : offT (ndBox x) := ⟨fun c e => (by cases e), fun c e => (by cases e), fun c e => (by cases e)⟩
theorem ac_offT (x : AcV) : offT (acBox x) := ⟨fun c e => (by cases e), fun c e => (by cases e), fun c e => (by cases e)⟩
theorem map_offT (es : Array MapEntry) (cl : Nat) : offT (.map es cl) := ⟨fun c e => (by cases e), fun c e => (by cases e), fun c e => (by cases e)⟩
theorem row_obj {W : World} {base e size n : Nat} {v : Value} {cs : List Value} (h : W.ownsRow base e size v n cs) {k : Nat} (hk : v.ownBlock = some k) : ∃ c, W.heap[k]? = some (.cells c e (0, 0)) := by
  rcases h.2 with ⟨rfl, _⟩ | ⟨g, cap, cur, rfl, _, h2, _⟩
  · cases hk
  · simp only [Value.ownBlock, Option.some.injEq] at hk
    subst hk
    exact ⟨_, h2⟩
/-- The blocks of what a node does are of none of a table's kinds. -/
theorem AcM.offT {B base : Nat} {a : AcV} {nws : List (Bool × Int × Int)} {frs cms : List (Int × ByteArray)} {drs : List Int} {W : World} (h : AcM B base a nws frs cms drs W) {k : Nat} (hk : AcIn B a k) : ∃ o, W.heap[k]? = some o ∧ Go.Proofs.YtakaadcpaeiccabGreat.offT o ∧ (∀ c, o ≠ .cells c 131 (0, 0)) ∧ ∀ es cl, o ≠ .map es cl := by
  rcases hk with rfl | hk | hk | hk | hk
  · exact ⟨_, h.blk, ac_offT a, fun c e => (by cases e), fun c d e => (by cases e)⟩
  · obtain ⟨c, hc⟩ := row_obj h.wrt hk
    exact ⟨_, hc, ⟨fun c e => (by cases e), fun c e => (by cases e), fun c e => (by cases e)⟩, fun c e => (by cases e), fun c d e => (by cases e)⟩
  · obtain ⟨c, hc⟩ := row_obj h.frm hk
    exact ⟨_, hc, ⟨fun c e => (by cases e), fun c e => (by cases e), fun c e => (by cases e)⟩, fun c e => (by cases e), fun c d e => (by cases e)⟩
  · obtain ⟨c, hc⟩ := row_obj h.cam hk
    exact ⟨_, hc, ⟨fun c e => (by cases e), fun c e => (by cases e), fun c e => (by cases e)⟩, fun c e => (by cases e), fun c d e => (by cases e)⟩
  · obtain ⟨c, hc⟩ := row_obj h.drp hk
    exact ⟨_, hc, ⟨fun c e => (by cases e), fun c e => (by cases e), fun c e => (by cases e)⟩, fun c e => (by cases e), fun c d e => (by cases e)⟩
end Go.Proofs.YtakaadcpaeiccabGreat
