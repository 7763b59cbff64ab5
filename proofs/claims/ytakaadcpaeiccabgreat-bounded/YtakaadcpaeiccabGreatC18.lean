import Derived.Test.YtakaadcpaeiccabGreatC17
import Derived.Maps.OwnSet
import Derived.DeepKeys4
import Derived.DeepKeys2
import Derived.ChangeKeysEq
import Derived.Test.YtakaadcpaeiccabGreatC04
import Derived.Deep.CutRange
import Derived.Deep.QuietTactic
import Derived.BigQuiet
namespace Go.Proofs.YtakaadcpaeiccabGreat
open Go.RowKit Go.Maps Go.WideMaps Go.WideShapes

/-! The map of what a node remembers: its keys are structs. -/
theorem tq_row : (261 : TypeId) < Tryz.prog.types.size := of_decide_eq_true (by kernel_rfl)
theorem tq_laid : laidOutB Tryz.prog = true := by kernel_rfl
theorem tq_wide : (match Tryz.prog.underlying 261 with | some (.array _ _) | some (.struct _) => true | _ => false) = true := by kernel_rfl
theorem tq_key : Tryz.prog.keyTypeAt 2 261 = true := by kernel_rfl
set_option maxRecDepth 100000 in
theorem tq_klaw : KeyLaw Tryz.prog 261 := deep_law_laid tq_laid (m := 2) (by omega) tq_row tq_key tq_wide
theorem tq_law : Keyed Tryz.prog 261 := Keyed.of_law tq_klaw
theorem tm_zero (w : World) : (zeroValue 279).run Tryz.prog w = .ok (.agg #[.int .u64 0, .int .i64 0]) w := by kernel_rfl
/-- What a question reads as, among a map's keys. -/
def qLit (q : Int × Int) : Lit := .string (keyBytes [.int .u32 q.1, .int .u32 q.2])
def encQ (q : Int × Int) : Value := .agg #[.int .u32 q.1, .int .u32 q.2]
def encM (m : Int × Int) : Value := .agg #[.int .u64 m.1, .int .i64 m.2]
def datM (m : Int × Int) : DataW Unit := .agg [.lit (.int .u64 m.1), .lit (.int .i64 m.2)]
/-- How a memory reads. -/
def memR (v : Value) : Option (DataW Unit × List MemPlace) :=
  match v with
  | .agg cs => match cs.toList with
    | [.int .u64 t, .int .i64 n] => some (.agg [.lit (.int .u64 t), .lit (.int .i64 n)], [])
    | _ => none
  | _ => none
theorem memR_of (m : Int × Int) : memR (encM m) = some (datM m, []) := rfl
theorem memR_inv {v : Value} {y : DataW Unit × List MemPlace} (h : memR v = some y) : ∃ m, v = encM m ∧ y = (datM m, []) := by
  unfold memR at h
  split at h
  · rename_i cs
    split at h
    · rename_i t n hl
      obtain ⟨l⟩ := cs
      simp only at hl
      subst hl
      exact ⟨(t, n), rfl, (Option.some.inj h).symm⟩
    · cases h
  · cases h
theorem datM_inj {a b : Int × Int} (h : datM a = datM b) : a = b := by
  unfold datM at h
  simp only [DataW.agg.injEq, List.cons.injEq, DataW.lit.injEq, Lit.int.injEq, true_and, and_true] at h
  exact Prod.ext h.1 h.2
def QOk (q : Int × Int) : Prop := U32 q.1 ∧ U32 q.2
set_option maxRecDepth 100000 in
theorem keyQ {q : Int × Int} (h : QOk q) : keyOf Tryz.prog 261 (encQ q) = some (qLit q) := by
  obtain ⟨m, hm⟩ : ∃ m, Tryz.prog.types.size = m + 1 := ⟨Tryz.prog.types.size - 1, by kernel_rfl⟩
  have hkt : Tryz.prog.keyType 261 = true := by kernel_rfl
  have hc : Tryz.prog.cellsOf 261 = 2 := by kernel_rfl
  have h32 : Tryz.prog.cellsOf 34 = 1 := by kernel_rfl
  have wa : (Lit.int .u32 q.1).wf = true := h.1.wf
  have wb : (Lit.int .u32 q.2).wf = true := h.2.wf
  unfold keyOf encQ qLit
  simp only [Tryz.underlying261]
  rw [if_pos (by simp [hkt, Value.formed, Tryz.underlying261, hc]), hm]
  unfold Program.keyLits
  simp only [Tryz.underlying261, Value.cells]
  rw [if_pos (by rw [hc]; exact ⟨rfl, by simp⟩)]
  simp [List.mapM_cons, List.mapM_nil, Program.keyLits, h32, Tryz.underlying34, wa, wb]
set_option maxRecDepth 100000 in
theorem keyQ_inv {v : Value} {l : Lit} (h : keyOf Tryz.prog 261 v = some l) : ∃ q, v = encQ q ∧ QOk q ∧ l = qLit q := by
  obtain ⟨xs, L, rfl, hL, hl⟩ := keyOf_top tq_wide h
  obtain ⟨m, hm⟩ : ∃ m, Tryz.prog.types.size = m + 1 := ⟨Tryz.prog.types.size - 1, by kernel_rfl⟩
  have hc : Tryz.prog.cellsOf 261 = 2 := by kernel_rfl
  have h32 : Tryz.prog.cellsOf 34 = 1 := by kernel_rfl
  unfold Program.keyLits at hL
  simp only [Tryz.underlying261] at hL
  split at hL
  · rename_i hs
    obtain ⟨zs⟩ := xs
    match zs, hs with
    | [c0, c1], _ =>
      simp [List.mapM_cons, List.mapM_nil, h32] at hL
      obtain ⟨l0, h0, hL⟩ := Option.bind_eq_some_iff.1 hL
      simp only [Function.comp_apply, Option.map_eq_some_iff, Option.bind_eq_some_iff, Option.some.injEq] at hL
      obtain ⟨_, ⟨_, ⟨l1, h1, rfl⟩, rfl⟩, rfl⟩ := hL
      have w0 := keyLits_wf h0
      have w1 := keyLits_wf h1
      obtain ⟨n0, e0, rfl⟩ := keyLits_int' Tryz.underlying34 h0
      obtain ⟨n1, e1, rfl⟩ := keyLits_int' Tryz.underlying34 h1
      simp only [List.cons.injEq, and_true] at e0 e1
      subst e0 e1
      have b0 := w0 _ (List.mem_singleton.2 rfl)
      have b1 := w1 _ (List.mem_singleton.2 rfl)
      have d0 := bounds_u32 b0
      have d1 := bounds_u32 b1
      exact ⟨(n0, n1), rfl, ⟨⟨d0.1, by dsimp only; omega⟩, ⟨d1.1, by dsimp only; omega⟩⟩, hl⟩
  · cases hL
theorem qLit_inj {a b : Int × Int} (ha : QOk a) (hb : QOk b) (h : qLit a = qLit b) : a = b := by
  have h1 := keyQ ha
  rw [h] at h1
  have := tq_law.inj h1 (keyQ hb)
  unfold encQ at this
  simp only [Value.agg.injEq, Array.mk.injEq, List.cons.injEq, Value.int.injEq, true_and, and_true] at this
  exact Prod.ext this.1 this.2
theorem qLit_key (q : Int × Int) : WideAt.IsKeyLit (qLit q) := by trivial

def updQ (g : Int × Int → Option (Int × Int)) (k : Int × Int) (v : Option (Int × Int)) : Int × Int → Option (Int × Int) := fun x => if x = k then v else g x
/-- A map from questions to memories. -/
def MapQ (W : World) (M : Nat) (g : Int × Int → Option (Int × Int)) (s : Nat) : Prop :=
  ∃ D : DataW Unit, W.ownsMap Tryz.prog 261 memR M s D ∧ Maps.size D = s ∧
    ∀ k, QOk k → Maps.has D (qLit k) = (g k).isSome ∧ D.atKey (qLit k) (datM (0, 0)) = datM ((g k).getD (0, 0))
theorem MapQ.block {W W' : World} {M : Nat} {g : Int × Int → Option (Int × Int)} {s : Nat} (h : MapQ W M g s) (he : W'.heap[M]? = W.heap[M]?) : MapQ W' M g s := by
  obtain ⟨D, ⟨es, clock, hb, Ft, hs, hD⟩, h2, h3⟩ := h
  exact ⟨D, ⟨es, clock, he.trans hb, Ft, hs, hD⟩, h2, h3⟩
theorem MapQ.lt {W : World} {M : Nat} {g : Int × Int → Option (Int × Int)} {s : Nat} (h : MapQ W M g s) : M < W.heap.size := by
  obtain ⟨D, h1, _⟩ := h
  exact h1.lt
theorem MapQ.obj {W : World} {M : Nat} {g : Int × Int → Option (Int × Int)} {s : Nat} (h : MapQ W M g s) : ∃ es cl, W.heap[M]? = some (.map es cl) := by
  obtain ⟨D, ⟨es, cl, hm, _⟩, _⟩ := h
  exact ⟨es, cl, hm⟩
theorem MapQ.made (w : World) : MapQ (w.alloc (.map #[] 0)) w.heap.size (fun _ => none) 0 :=
  ⟨.map [], World.ownsMap_made w _ _ _, rfl, fun _ _ => ⟨rfl, rfl⟩⟩
theorem MapQ.put {W : World} {M : Nat} {g : Int × Int → Option (Int × Int)} {s : Nat} (h : MapQ W M g s) (hs : s < maxLen) {k : Int × Int} (hk : QOk k) (m : Int × Int) :
    ∃ W', (Instr.mapUpdate 111 (.map (some M)) (encQ k) (encM m)).run Tryz.prog W = .ok () W' ∧ MapQ W' M (updQ g k (some m)) (if (g k).isSome then s else s + 1) ∧ W.grownBy W' (some M) := by
  obtain ⟨D, h1, h2, h3⟩ := h
  obtain ⟨W', hr, ho, ht⟩ := h1.store tq_law Tryz.underlying111 hs (keyQ hk) (memR_of m)
  have hm := h1.isMap
  have htd := h1.tidy tq_law
  have hkl := qLit_key k
  have hsz : Maps.size (D.put (qLit k) (datM m)) = if (g k).isSome then s else s + 1 := by
    rw [size_put htd, (h3 k hk).1, h2]
  refine ⟨W', hr, ⟨_, ?_, hsz, fun x hx => ?_⟩, ht.grown⟩
  · have := ownsMap_tight ho
    rw [hsz] at this
    exact this
  · by_cases e : x = k
    · subst e
      refine ⟨by rw [has_put_same hm hkl]; simp [updQ], ?_⟩
      rw [atKey_put_same hm hkl]
      simp [updQ]
    · have hne : qLit x ≠ qLit k := fun h => e (qLit_inj hx hk h)
      refine ⟨by rw [has_put_other hne]; simp [updQ, e, (h3 x hx).1], ?_⟩
      rw [atKey_put_other hne, (h3 x hx).2]
      simp [updQ, e]
theorem MapQ.look {W : World} {M : Nat} {g : Int × Int → Option (Int × Int)} {s : Nat} (h : MapQ W M g s) {k : Int × Int} (hk : QOk k) :
    (Instr.lookup 111 (.map (some M)) (encQ k) false).run Tryz.prog W = .ok (encM ((g k).getD (0, 0))) W := by
  obtain ⟨D, h1, h2, h3⟩ := h
  obtain ⟨v, ps, hr, hv⟩ := h1.lookup tq_law Tryz.underlying111 (tm_zero W) (memR_of (0, 0)) (keyQ hk)
  have h4 := (h3 k hk).2
  rw [h4] at hv
  obtain ⟨m, rfl, he⟩ := memR_inv hv
  have := datM_inj (Prod.ext_iff.1 he).1
  rw [hr, ← this]
theorem MapQ.del {W : World} {M : Nat} {g : Int × Int → Option (Int × Int)} {s : Nat} (h : MapQ W M g s) {k : Int × Int} (hk : QOk k) (ty : TypeId) (hf : (g k).isSome = true) :
    ∃ W', (Builtin.delete_ #[111, 261] ty #[.map (some M), encQ k]).run Tryz.prog W = .ok (.tuple #[]) W' ∧ MapQ W' M (updQ g k none) (s - 1) ∧ W.grownBy W' (some M) := by
  obtain ⟨D, h1, h2, h3⟩ := h
  obtain ⟨W', hr, ho, ht⟩ := h1.drop tq_law Tryz.underlying111 (keyQ hk) ty
  have htd := h1.tidy tq_law
  have hsz : Maps.size (D.del (qLit k)) = s - 1 := by
    have := size_del (k := qLit k) htd
    rw [(h3 k hk).1, hf, h2] at this
    simp at this
    omega
  refine ⟨W', hr, ⟨_, ?_, hsz, fun x hx => ?_⟩, ht.grown⟩
  · have := ownsMap_tight ho
    rw [hsz] at this
    exact this
  · by_cases e : x = k
    · subst e
      refine ⟨by rw [has_del_same]; simp [updQ], ?_⟩
      rw [atKey_del_same]
      simp [updQ]
    · have hne : qLit x ≠ qLit k := fun h => e (qLit_inj hx hk h)
      refine ⟨by rw [has_del_other hne]; simp [updQ, e, (h3 x hx).1], ?_⟩
      rw [atKey_del_other hne, (h3 x hx).2]
      simp [updQ, e]
theorem MapQ.len {W : World} {M : Nat} {g : Int × Int → Option (Int × Int)} {s : Nat} (h : MapQ W M g s) (ty : TypeId) :
    (Builtin.len_ #[111] ty #[.map (some M)]).run Tryz.prog W = .ok (.int .i64 s) W := by
  obtain ⟨D, h1, h2, h3⟩ := h
  rw [h1.len Tryz.underlying111 ty, h2]
end Go.Proofs.YtakaadcpaeiccabGreat

namespace Go.Proofs.YtakaadcpaeiccabGreat
open Go.RowKit Go.Maps

/-- A node in memory: its own cells, its table, what it has written. -/
structure NdM (N : Nat) (x : NdV) (M : Nat) (ff : Int → Option Nat) (gg : Int → Value) (A : List Rt) (f : Int → Option Int) (sz : Nat) (W : World) : Prop where
  nd : NdB N x W
  mo : MapU W x.Mo f sz
  tb : MT x.self x.T M ff gg A W
  ne : M ≠ x.Mo
theorem NdM.later {N : Nat} {x : NdV} {M : Nat} {ff : Int → Option Nat} {gg : Int → Value} {A : List Rt} {f : Int → Option Int} {sz : Nat} {W W' : World} (h : NdM N x M ff gg A f sz W) (hb : Below W.heap.size W W') : NdM N x M ff gg A f sz W' :=
  ⟨h.nd.later hb, h.mo.block (hb.block _ h.mo.lt), h.tb.kept fun k hk => hb.block k (h.tb.lt hk), h.ne⟩
theorem RC_one' (L : List (Bool × Int × Int)) : ∀ u ∈ RC L, u.oneCell' = true := RC_oneCell L
/-- Something turns that is of none of a node's kinds. -/
theorem NdM.kept {N : Nat} {x : NdV} {M : Nat} {ff : Int → Option Nat} {gg : Int → Value} {A : List Rt} {f : Int → Option Int} {sz : Nat} {W W' : World} (h : NdM N x M ff gg A f sz W) {S : Nat → Prop} (hf : Fx S W W') (hS : ∀ k, S k → k < W.heap.size → ∃ o, W.heap[k]? = some o ∧ offT o ∧ (∀ c, o ≠ .cells c 131 (0, 0)) ∧ ∀ es cl, o ≠ .map es cl) : NdM N x M ff gg A f sz W' := by
  have hM : ∀ k, S k → k < W.heap.size → k ≠ M ∧ k ≠ x.Mo ∧ k ≠ N := by
    intro k hk hlt
    obtain ⟨o, h1, _, h3, h4⟩ := hS k hk hlt
    refine ⟨?_, ?_, ?_⟩
    · rintro rfl
      obtain ⟨D, ⟨es, cl, hm, _⟩, _⟩ := h.tb.map
      rw [hm] at h1
      exact h4 _ _ (Option.some.inj h1).symm
    · rintro rfl
      obtain ⟨es, cl, hm⟩ := h.mo.obj
      rw [hm] at h1
      exact h4 _ _ (Option.some.inj h1).symm
    · rintro rfl
      rw [show W.heap[k]? = _ from h.nd] at h1
      exact h3 _ (Option.some.inj h1).symm
  refine ⟨h.nd.block (hf.block _ h.nd.lt fun e => (hM _ e h.nd.lt).2.2 rfl), h.mo.block (hf.block _ h.mo.lt fun e => (hM _ e h.mo.lt).2.1 rfl), h.tb.keptFx hf fun k hk hlt => ?_, h.ne⟩
  obtain ⟨o, h1, h2, _⟩ := hS k hk hlt
  exact ⟨(hM k hk hlt).1, o, h1, h2⟩

set_option maxRecDepth 100000 in
set_option maxHeartbeats 4000000 in
theorem write_any (N B base : Nat) (x : NdV) (a : AcV) (M : Nat) (ff : Int → Option Nat) (gg : Int → Value) (A : List Rt) (f : Int → Option Int) (sz : Nat) (nws : List (Bool × Int × Int)) (frs cms : List (Int × ByteArray)) (drs : List Int) (w : World)
    (hn : NdM N x M ff gg A f sz w) (ha : AcM B base a nws frs cms drs w) (hbs : base ≤ w.heap.size) (hcnt : 0 ≤ x.cnt ∧ x.cnt ≤ 1000000) (hsz : sz ≤ 1000000) (hnw : nws.length ≤ 90000) :
    Calls Tryz.prog 71 #[.pointer (some ⟨N, 0, none⟩), .pointer (some ⟨B, 0, none⟩)] w fun e w' => ∃ v7 sz', e = .returned (.tuple #[]) ∧ NdM N { x with own := mxO x.seq x.own, cnt := x.cnt + (newsP x.seq x.own f A).2.length } M ff gg A (newsP x.seq x.own f A).1 sz' w' ∧ sz' ≤ sz + 8 ∧ AcM B base { a with wrt := v7 } (nws ++ (newsP x.seq x.own f A).2) frs cms drs w' ∧ Fx (fun k => k = N ∨ k = x.Mo ∨ AcIn B a k) w w' := by
  obtain ⟨i0, hi, hz0, hz1, hz2⟩ := info_parts info_rec
  have hlen := hn.tb.len
  have hok := hn.tb.ok
  have hPl := newsP_len x.seq x.own f A
  -- behind List
  let P5 : Value → List (Rt × Value) → World → Prop := fun l L W => L.map (·.1) = A ∧ LsR w.heap.size l L W ∧ Below w.heap.size w W
  have HL : Hid (∀ W', Below w.heap.size w W' → Calls Tryz.prog 60 #[.pointer (some ⟨x.T, 0, none⟩)] W' fun e w5 => ∃ ao n c L, e = .returned (.slice ao n c) ∧ P5 (.slice ao n c) L w5) := by
    intro W' hb
    refine (List_any (hn.later hb).tb).mono ?_
    rintro e w5 ⟨v, L, rfl, h1, h2, h3⟩
    obtain ⟨ao, c, rfl, _⟩ := row_form h2.row
    exact ⟨ao, _, c, L, rfl, h1, ⟨ownsRow_base_a h2.row hb.size, fun p hp => ownsRow_base_a (h2.bef p hp) hb.size⟩, hb.trans (h3.mono hb.size)⟩
  let P6 : Value → World → Prop := fun v W => W.ownsRow w.heap.size 82 3 v (newsP x.seq x.own f A).2.length (RC (newsP x.seq x.own f A).2) ∧ (∃ sz', NdM N { x with own := mxO x.seq x.own, cnt := x.cnt + (newsP x.seq x.own f A).2.length } M ff gg A (newsP x.seq x.own f A).1 sz' W ∧ sz' ≤ sz + 8) ∧ AcM B base a nws frs cms drs W ∧ Fx (fun k => k = N ∨ k = x.Mo) w W
  have HN : Hid (∀ l L W', P5 l L W' → Calls Tryz.prog 104 #[.pointer (some ⟨N, 10, none⟩), .int .u32 x.seq, l] W' fun e w6 => ∃ ao n c, e = .returned (.slice ao n c) ∧ P6 (.slice ao n c) w6) := by
    rintro l L W' ⟨h1, h2, hb⟩
    have hn' := hn.later hb
    have ha' := ha.later hb
    refine (news_any N x x.seq f sz l L A h1 hok hlen hcnt hsz W' hn'.nd hn'.mo ⟨ownsRow_base_a h2.row (Nat.zero_le _), fun p hp => ownsRow_base_a (h2.bef p hp) (Nat.zero_le _)⟩).mono ?_
    rintro e w6 ⟨v, sz', rfl, k1, k2, k3, k4, k5⟩
    obtain ⟨ao, c, rfl, _⟩ := row_form k1
    refine ⟨ao, _, c, rfl, ownsRow_base_a k1 hb.size, ⟨sz', ⟨k2, k3, hn'.tb.keptFx k5 ?_, hn.ne⟩, k4⟩, ha'.kept fun k hk => k5.block k (ha'.lt hk) ?_, (Fx.below hb).trans (S' := fun k => k = N ∨ k = x.Mo) k5 (fun i _ h => h)⟩
    · rintro k (rfl | rfl) _
      · refine ⟨fun e => ?_, _, hn'.nd, nd_offT x⟩
        obtain ⟨D, ⟨es, cl, hm, _⟩, _⟩ := hn'.tb.map
        rw [← e, show W'.heap[k]? = _ from hn'.nd] at hm
        cases hm
      · obtain ⟨es, cl, hm⟩ := hn'.mo.obj
        exact ⟨Ne.symm hn.ne, _, hm, map_offT es cl⟩
    · rintro (rfl | rfl)
      · exact ha'.not hn'.nd (nd_offA x) hk
      · obtain ⟨es, cl, hm⟩ := hn'.mo.obj
        exact ha'.not hm (map_offA es cl) hk
  have H5 : Hid (∀ l L W, P5 l L W → W.cell? ⟨B, 1, none⟩ = some a.wrt ∧ W.cell? ⟨N, 3, none⟩ = some (.int .u32 x.seq) ∧ W.cell? ⟨N, 7, none⟩ = some (.pointer (some ⟨x.T, 0, none⟩))) := by
    rintro l L W ⟨_, _, hb⟩
    exact ⟨(ha.later hb).blk.cell.2.1, (hn.later hb).nd.cell.2.2.1, (hn.later hb).nd.cell.2.2.2.2.1⟩
  have H6 : Hid (∀ v W, P6 v W → W.cell? ⟨B, 1, none⟩ = some a.wrt ∧ W.ownsRow base 82 3 a.wrt nws.length (RC nws) ∧ W.ownsRow w.heap.size 82 3 v (newsP x.seq x.own f A).2.length (RC (newsP x.seq x.own f A).2) ∧ base ≤ W.heap.size) := by
    rintro v W ⟨h1, _, h3, h4⟩
    exact ⟨h3.blk.cell.2.1, h3.wrt, h1, Nat.le_trans hbs h4.size⟩
  have HF : Hid (∀ v W v7 W7, P6 v W → W7.ownsRow base 82 3 v7 (nws.length + (newsP x.seq x.own f A).2.length) (RC nws ++ RC (newsP x.seq x.own f A).2) → W.grownBy W7 a.wrt.ownBlock → (W7.cell? ⟨B, 1, none⟩ = some a.wrt ∧ W7.frozen? ⟨B, 1, none⟩ = false) ∧ ∃ sz', NdM N { x with own := mxO x.seq x.own, cnt := x.cnt + (newsP x.seq x.own f A).2.length } M ff gg A (newsP x.seq x.own f A).1 sz' (W7.setCell ⟨B, 1, none⟩ v7) ∧ sz' ≤ sz + 8 ∧ AcM B base { a with wrt := v7 } (nws ++ (newsP x.seq x.own f A).2) frs cms drs (W7.setCell ⟨B, 1, none⟩ v7) ∧ Fx (fun k => k = N ∨ k = x.Mo ∨ AcIn B a k) w (W7.setCell ⟨B, 1, none⟩ v7)) := by
    rintro v W v7 W7 ⟨h1, ⟨sz', h2, h2'⟩, h3, h4⟩ ho7 hg
    have hBr : a.wrt.ownBlock ≠ some B := row_not h3.wrt h3.blk (fun c e => (by cases e))
    have hB7 : AcB B a W7 := h3.blk.block (hg.block _ h3.blk.lt (fun e => hBr e.symm))
    have hg2 : W7.grownBy (W7.setCell ⟨B, 1, none⟩ v7) (some B) := grown_cellOf (grown_self _ (some B)) 1 v7
    have hfx : Fx (AcIn B a) W (W7.setCell ⟨B, 1, none⟩ v7) := grown_Fx (Fx.grown hg fun k e => .inr (.inl e)) hg2 fun i _ e => by cases e; exact .inl rfl
    have f1 := h3.frm.kept hg (rows_apart h3.frm h3.wrt (by decide))
    have f2 := h3.cam.kept hg (rows_apart h3.cam h3.wrt (by decide))
    have f3 := h3.drp.kept hg (rows_apart h3.drp h3.wrt (by decide))
    refine ⟨⟨hB7.cell.2.1, hB7.free 1⟩, sz', h2.kept hfx (fun k hk _ => h3.offT hk), h2', ⟨hB7.setRec v7, ?_, ?_, ?_, ?_⟩, (h4.mono (fun i h => ?_)).trans hfx (fun i _ h => .inr (.inr h))⟩
    · rw [List.length_append, RC_append]
      exact ho7.kept hg2 (.inr (row_not ho7 hB7 (fun c e => (by cases e))))
    · exact f1.kept hg2 (.inr (row_not f1 hB7 (fun c e => (by cases e))))
    · exact f2.kept hg2 (.inr (row_not f2 hB7 (fun c e => (by cases e))))
    · exact f3.kept hg2 (.inr (row_not f3 hB7 (fun c e => (by cases e))))
    · rcases h with h | h
      · exact .inl h
      · exact .inr (.inl h)
  clear_value P5 P6
  obtain ⟨c0, c1, c2, c3, c4, c5, c6⟩ := ha.blk.cell
  obtain ⟨n0, n2, n3, n4, n5, n6, n7, n8, n9, n10⟩ := hn.nd.cell
  clear hn ha
  go_enter Tryz.func71, Tryz.ntmps71
  go_wp2_with fail
  go_region_law (first
    | (go_simp; go_at_call 60; refine (HL.out _ (by first | exact Below.refl _ _ | exact (Below.refl _ _).drew | exact below_drewN (Below.refl _ _) _)).mono ?_; rintro e w5 ⟨ao5, n5, cc5, L5, rfl, hP5⟩; obtain ⟨d1, d2, d3⟩ := H5.out _ _ _ hP5)
    | (go_simp; go_at_call 104; refine (HN.out _ _ _ hP5).mono ?_; rintro e w6 ⟨ao6, n6, cc6, rfl, hP6⟩; obtain ⟨e1, e2, e3, e4⟩ := H6.out _ _ hP6)
    | (refine step_append_rows rfl (.tmp 8) (.tmp 21) 79 rfl base 82 i0 (.agg #[.bool false, .int .u32 0, .int .u32 0]) 3 12 Tryz.underlying79 hi hz0 hz1 hz2 rfl (by decide) a.wrt nws.length (RC nws) (by simp [Act.eval]) e2 w.heap.size (.slice ao6 n6 cc6) _ (RC (newsP x.seq x.own f A).2) (by simp [Act.eval]) e3 (RC_one' _) (by unfold maxLen; omega) (by omega) e4 ?_; intro v7 w7 ho7 hg7; obtain ⟨⟨g1, g2⟩, hfin⟩ := HF.out _ _ _ _ hP6 ho7 hg7; obtain ⟨ao7, cc7, rfl, _⟩ := row_form ho7))
  all_goals
    obtain ⟨sz', k1, k2, k3, k4⟩ := hfin
    generalize World.setCell _ _ _ = w8 at k1 k3 k4 ⊢
    clear d1 d2 d3 e1 e2 e3 e4 g1 g2 hg7 ho7
    go_wp2
    go_returns
    exact ⟨_, _, rfl, k1, k2, k3, k4⟩
end Go.Proofs.YtakaadcpaeiccabGreat

namespace Go.Proofs.YtakaadcpaeiccabGreat
open Go.RowKit

set_option maxHeartbeats 1000000 in
theorem Encode_bad (p : Pkt) (hp : p.Wf) (hg : p.goodB = false) (w : World) :
    Calls Tryz.prog 117 #[p.val] w fun e w' => e = .returned (.tuple #[.slice none 0 0, .int .i64 1]) ∧ Below w.heap.size w w' := by
  go_enter Tryz.func117, Tryz.ntmps117
  go_wp2_with (go_at_call 90; refine (isPacket_any p hp _).mono ?_; rintro e w1 ⟨rfl, hb1⟩)
  go_ret2
  exact ⟨rfl, ((Below.refl _ _).alloc (Nat.le_refl _) _).trans (hb1.mono (by simp))⟩

/-- The cells of a list of what is lost. -/
def HoldsL (w : World) (p : Pkt) (L : List (Int × Int)) : Prop :=
  L.length = p.ln ∧ ∀ j, j < L.length → ∃ lb lo d s, p.la = some ⟨lb, lo, none⟩ ∧ lb < w.heap.size ∧ L[j]? = some (d, s) ∧ 0 ≤ d ∧ d < 4294967296 ∧ 0 ≤ s ∧ s < 4294967296 ∧
    w.cell? ⟨lb, lo + j * 2, none⟩ = some (.int .u32 d) ∧ w.cell? ⟨lb, lo + j * 2 + 1, none⟩ = some (.int .u32 s)

def flagB (p : Pkt) : Int := if p.unk then 8 else 0
theorem flags_f (p : Pkt) (w : World) :
    Calls Tryz.prog 151 #[p.val] w fun e w' => e = .returned (.int .u8 (flagB p)) ∧ Below w.heap.size w w' := flags_any p w
def Pkt.head (p : Pkt) : List Int := [p.ttl, p.kind, flagB p, 0, p.cnt]

/-- The frame of a packet. -/
def encB (p : Pkt) (L : List (Int × Int)) : List Int := p.head ++ p.numB p.nums.length ++ lostB L L.length ++ strNums p.pay

set_option maxHeartbeats 2000000 in
theorem Encode_good (p : Pkt) (hp : p.Wf) (hg : p.goodB = true) (ht0 : 1 ≤ p.ttl) (ht1 : p.ttl ≤ 255) (hk0 : 1 ≤ p.kind) (hk1 : p.kind ≤ 9) (hc0 : 0 ≤ p.cnt) (hc1 : p.cnt ≤ 255)
    (hln : p.ln ≤ 8) (hpay : p.pay.size ≤ 16)
    (L : List (Int × Int)) (w : World) (hL : HoldsL w p L) :
    Calls Tryz.prog 117 #[p.val] w fun e w' => ∃ v, e = .returned (.tuple #[v, .int .i64 0]) ∧ Below w.heap.size w w' ∧ v ≠ .slice none 0 0 ∧ w'.ownsRow (w.heap.size + 1) 5 1 v (encB p L).length (U (encB p L)) := by
  go_enter Tryz.func117, Tryz.ntmps117
  go_wp2_with (go_at_call 90; refine (isPacket_any p hp _).mono ?_; rintro e w1 ⟨rfl, hb1⟩)
  have ht0' : 0 ≤ p.ttl := by omega
  have hk0' : 0 ≤ p.kind := by omega
  have hk1' : p.kind ≤ 255 := by omega
  have hI := (InB.start0 p w).below hb1
  clear hb1
  go_region_held3 (InB p w) (first | exact InB.drew' (by assumption) | assumption | exact InB.below (by assumption) (by assumption) | exact InB.below (by assumption) ((Below.refl _ _).alloc (Nat.le_refl _) _)) (first
    | (go_at_call 151; refine (flags_f p _).mono ?_; rintro e w2 ⟨rfl, hb2⟩)
    | (go_at_call 126; refine (count_any p _).mono ?_; rintro e w3 ⟨rfl, hb3⟩))
  rename_i hI3
  rw [IntWalk.u8_in _ ⟨ht0', ht1⟩, IntWalk.u8_in _ ⟨hk0', hk1'⟩, IntWalk.u8_in _ ⟨hc0, hc1⟩] at hI3 ⊢
  have hz3 : w.heap.size + 1 ≤ w3.heap.size := by
    obtain ⟨_, _, _, _, _, _, _, _, _, _, _, _, hs, _⟩ := hI
    have h2 := hb2.size
    have h3 := hb3.size
    simp only [World.size_drew] at h2
    omega
  have own0 := own_head (w.heap.size + 1) w3 p.ttl p.kind (flagB p) 0 p.cnt hz3
  clear hI hb2 hb3
  have hnn : (Value.slice (some ⟨w3.heap.size, 0, none⟩) 5 5) ≠ .slice none 0 0 := by simp
  generalize w3.alloc _ = W3 at hI3 own0 ⊢
  generalize Value.slice (some ⟨w3.heap.size, 0, none⟩) 5 5 = b0 at own0 hnn ⊢
  clear hz3
  have hkc := hI3.2.1
  go_wp2_with (go_at_call 86; refine (numbers_any p _ _ hkc).mono ?_; rintro e w4 ⟨ao, rfl, hb4, hptr⟩)
  have hE0 : EncInv p w ao w4 b0 (p.head ++ p.numB 0) := by
    have hI3' := hI3
    obtain ⟨_, _, _, _, _, _, _, _, _, _, _, _, hs, hB⟩ := hI3'
    have hg : W3.grownBy w4 none := ⟨hb4.os, hb4.tape, hb4.output, hb4.size, fun k hk _ => hb4.block k hk⟩
    refine ⟨hI3.below hb4, ?_, hnn, fun j hj => ?_⟩
    · simp only [Pkt.numB, List.take_zero, List.flatMap_nil, List.append_nil]
      exact own0.kept hg (by cases hv : b0.ownBlock <;> simp)
    · obtain ⟨N, h1, h2, h3⟩ := hptr j hj
      exact ⟨N, h1, by omega, h3⟩
  clear hI3 own0 hnn hptr hb4 hkc
  have hn5 := nums_len p
  go_loopw [4, 26] (fun b i wr => ∃ k : Nat, k ≤ p.nums.length ∧ i = .int .i64 k ∧ EncInv p w ao wr b (p.head ++ p.numB k)) (fun _ i _ => p.nums.length - (intOf i).toNat)
  case atStart => exact ⟨0, Nat.zero_le _, rfl, hE0⟩
  case round =>
    clear hE0
    obtain ⟨k, hk, rfl, hE⟩ := hrel
    by_cases hlt : k < p.nums.length
    · obtain ⟨o, x, hox, hcx, hx0, hx1⟩ := nums_cell hp hE.inb k hlt
      obtain ⟨N, rfl, hNk⟩ := hE.ptrCell k hlt hox
      have hlen : (p.head ++ p.numB k).length ≤ 1000000 := by
        have := numB_len p k
        simp only [List.length_append, Pkt.head, List.length_cons, List.length_nil]
        omega
      have hst : Hid (p.numB (k + 1) = p.numB k ++ b4 x) := numB_succ hox
      clear hox
      go_wp2_with (go_at_call 57; refine (appendNumber_any (w.heap.size + 1) _ x (p.head ++ p.numB k) _ hx0 hx1 hE.own hE.nn hE.base hlen).mono ?_; rintro e w5 ⟨v', rfl, hown', hgrow, hnn'⟩)
      go_roundw
      case rel => exact ⟨k + 1, by omega, by go_num, by rw [hst.out, ← List.append_assoc]; exact hE.step hgrow hown' hnn'⟩
      case measure => simp [intOf]; omega
    · obtain rfl : k = p.nums.length := by omega
      obtain ⟨_, _, _, _, _, _, _, _, _, _, c10, c11, hs, hB⟩ := id hE.inb
      clear hk hlt
      go_wp2_with fail
      generalize hla : p.la = la
      have hE1 : EncInv p w ao wr u4 (p.head ++ p.numB p.nums.length ++ lostB L 0) := by
        simpa only [lostB, List.take_zero, List.flatMap_nil, List.append_nil] using hE
      clear hE c10 c11 hs hB
      go_loopw [4, 39] (fun b i wx => ∃ k : Nat, k ≤ p.ln ∧ i = .int .i64 k ∧ EncInv p w ao wx b (p.head ++ p.numB p.nums.length ++ lostB L k)) (fun _ i _ => p.ln - (intOf i).toNat)
      case atStart => exact ⟨0, Nat.zero_le _, rfl, hE1⟩
      case round =>
        clear hE1
        obtain ⟨k, hk, rfl, hE⟩ := hrel
        by_cases hlt : k < p.ln
        · obtain ⟨hLn, hLc⟩ := hL
          obtain ⟨lb, lo, d, s, hpa, hlb, hds, hd0, hd1, hs0, hs1, hcd, hcs⟩ := hLc k (by omega)
          obtain rfl : la = some ⟨lb, lo, none⟩ := hla.symm.trans hpa
          have hB := hE.inb.2.2.2.2.2.2.2.2.2.2.2.2.2
          have hlen : (p.head ++ p.numB p.nums.length ++ lostB L k).length ≤ 900000 := by
            have := numB_len p p.nums.length
            have := lostB_len L k
            simp only [List.length_append, Pkt.head, List.length_cons, List.length_nil]
            omega
          have hst : Hid (lostB L (k + 1) = lostB L k ++ b4 d ++ b4 s) := lostB_succ hds
          have hcd' : wr.cell? ⟨lb, lo + k * 2, none⟩ = some (.int .u32 d) := (hB.cell (p := ⟨lb, lo + k * 2, none⟩) hlb).trans hcd
          have hcs' : wr.cell? ⟨lb, lo + k * 2 + 1, none⟩ = some (.int .u32 s) := (hB.cell (p := ⟨lb, lo + k * 2 + 1, none⟩) hlb).trans hcs
          have hEa := (hE.alloc (.cells #[.int .u32 d, .int .u32 s] 237)).drew
          clear hds hpa hla hcd hcs hLc hLn hB
          go_wp2_with fail
          go_region_held3 (LBlk wr.heap.size d s) (first | exact LBlk.start _ _ _ | assumption | exact LBlk.grown (by assumption) hown5 hgrow6 | exact LBlk.grown (by assumption) hEa.own hgrow5) (first
            | (go_at_call_of 57 (Value.int IntKind.u32 d); refine (appendNumber_any (w.heap.size + 1) _ d (p.head ++ p.numB p.nums.length ++ lostB L k) _ hd0 hd1 hEa.own hEa.nn hEa.base (by omega)).mono ?_; rintro e w5 ⟨v5, rfl, hown5, hgrow5, hnn5⟩)
            | (go_at_call_of 57 (Value.int IntKind.u32 s); refine (appendNumber_any (w.heap.size + 1) _ s (p.head ++ p.numB p.nums.length ++ lostB L k ++ b4 d) _ hs0 hs1 hown5 hnn5 (hEa.step hgrow5 hown5 hnn5).base (by rw [List.length_append, b4_length]; omega)).mono ?_; rintro e w6 ⟨v6, rfl, hown6, hgrow6, hnn6⟩))
          have hE6 := (hEa.step hgrow5 hown5 hnn5).step hgrow6 hown6 hnn6
          clear hown5 hgrow5 hnn5 hown6 hgrow6 hnn6 hEa hE
          go_wp2
          go_roundw
          case rel => exact ⟨k + 1, by omega, by go_num, by rw [hst.out, ← List.append_assoc, ← List.append_assoc]; exact hE6⟩
          case measure => simp [intOf]; omega
        · obtain rfl : k = p.ln := by omega
          obtain ⟨_, _, _, _, _, _, _, _, _, _, c10, c11, hs, hB⟩ := id hE.inb
          obtain ⟨i0, hi, hz0, hz1, hz2⟩ := info_parts info_u8
          have hlen : (p.head ++ p.numB p.nums.length ++ lostB L p.ln).length ≤ 900000 := by
            have := numB_len p p.nums.length
            have := lostB_len L p.ln
            have := hL.1
            simp only [List.length_append, Pkt.head, List.length_cons, List.length_nil]
            omega
          have hbase := hE.base
          have hlt0 := hE.own.lt
          clear hk hlt hla
          go_wp2_with (at_builtin; refine wpList_append_own_src _ rfl _ _ 58 9 rfl (w.heap.size + 1) 5 i0 (.int .u8 0) 1 1 Tryz.underlying58 hi hz0 hz1 hz2 rfl _ (p.head ++ p.numB p.nums.length ++ lostB L p.ln).length (U (p.head ++ p.numB p.nums.length ++ lostB L p.ln)) rfl hE.own hE.nn _ p.pay.size (byteCells p.pay) rfl (Src.ofString _ Tryz.underlying9 p.pay) ?c1 ?c2 ?c3 ?_)
          case c1 => unfold maxLen; omega
          case c2 => omega
          case c3 => exact hbase
          intro v' w7 hown' hgrow hnn'
          go_wp2
          go_ret2
          refine ⟨v', rfl, hB.grown hgrow (Nat.le_of_lt hs) (fun k hk => Nat.le_of_succ_le (hlt0 k hk).1), hnn', ?_⟩
          have hLn : L.length = p.ln := hL.1
          rw [byteCells_U, U_append] at hown'
          have he : encB p L = p.head ++ p.numB p.nums.length ++ lostB L p.ln ++ strNums p.pay := by
            simp only [encB, hLn]
          rw [he]
          simpa only [List.length_append, List.append_assoc, strNums_length, Nat.add_assoc] using hown'
end Go.Proofs.YtakaadcpaeiccabGreat

namespace Go.Proofs.YtakaadcpaeiccabGreat
open Go.RowKit

/-- What a packet has of what its kind has. -/
def Pkt.ownP (p : Pkt) : Pkt :=
  if p.kind = 1 then ⟨p.ttl, 1, p.hops, p.unk, p.id, p.dest, if p.unk then 0 else p.dseq, p.frm, p.fseq, 0, none, 0, 0, ⟨#[]⟩⟩
  else if p.kind = 2 then ⟨p.ttl, 2, p.hops, false, 0, p.dest, p.dseq, p.frm, 0, p.life, none, 0, 0, ⟨#[]⟩⟩
  else if p.kind = 3 then ⟨p.ttl, 3, 0, false, 0, 0, 0, 0, 0, 0, p.la, p.ln, p.lc, ⟨#[]⟩⟩
  else if p.kind = 9 then ⟨p.ttl, 9, 0, false, p.id, p.dest, 0, p.frm, 0, 0, none, 0, 0, p.pay⟩
  else ⟨p.ttl, p.kind, 0, false, 0, 0, 0, 0, 0, 0, none, 0, 0, ⟨#[]⟩⟩

end Go.Proofs.YtakaadcpaeiccabGreat

namespace Go.Proofs.YtakaadcpaeiccabGreat
open Go.RowKit

def alikeB (p q : Pkt) : Bool :=
  decide (p.ttl = q.ttl ∧ p.kind = q.kind ∧ p.hops = q.hops ∧ p.unk = q.unk ∧ p.id = q.id ∧ p.dest = q.dest ∧ p.dseq = q.dseq ∧ p.frm = q.frm ∧ p.fseq = q.fseq ∧ p.life = q.life ∧ p.pay = q.pay)

/-- A packet's cells in a block. -/
@[reducible] def InC (p : Pkt) (b : Nat) (W : World) : Prop :=
  W.cell? ⟨b, 0, none⟩ = some (.int .i64 p.ttl) ∧ W.cell? ⟨b, 1, none⟩ = some (.int .i64 p.kind) ∧ W.cell? ⟨b, 2, none⟩ = some (.int .i64 p.hops) ∧
  W.cell? ⟨b, 3, none⟩ = some (.bool p.unk) ∧ W.cell? ⟨b, 4, none⟩ = some (.int .u32 p.id) ∧ W.cell? ⟨b, 5, none⟩ = some (.int .u32 p.dest) ∧
  W.cell? ⟨b, 6, none⟩ = some (.int .u32 p.dseq) ∧ W.cell? ⟨b, 7, none⟩ = some (.int .u32 p.frm) ∧ W.cell? ⟨b, 8, none⟩ = some (.int .u32 p.fseq) ∧
  W.cell? ⟨b, 9, none⟩ = some (.int .u32 p.life) ∧ W.cell? ⟨b, 10, none⟩ = some (.slice p.la p.ln p.lc) ∧ W.cell? ⟨b, 11, none⟩ = some (.string p.pay)

theorem InC.new (p : Pkt) (w : World) : InC p w.heap.size (w.alloc p.box) :=
  ⟨World.cell?_alloc_new w _ _ _, World.cell?_alloc_new w _ _ _, World.cell?_alloc_new w _ _ _, World.cell?_alloc_new w _ _ _, World.cell?_alloc_new w _ _ _, World.cell?_alloc_new w _ _ _,
   World.cell?_alloc_new w _ _ _, World.cell?_alloc_new w _ _ _, World.cell?_alloc_new w _ _ _, World.cell?_alloc_new w _ _ _, World.cell?_alloc_new w _ _ _, World.cell?_alloc_new w _ _ _⟩

theorem InC.below {p : Pkt} {b B : Nat} {W W1 : World} (h : InC p b W) (hb : Below B W W1) (hlt : b < B) : InC p b W1 := by
  obtain ⟨c0, c1, c2, c3, c4, c5, c6, c7, c8, c9, c10, c11⟩ := h
  have k : ∀ i, W1.cell? ⟨b, i, none⟩ = W.cell? ⟨b, i, none⟩ := fun i => hb.cell (p := ⟨b, i, none⟩) hlt
  exact ⟨(k _).trans c0, (k _).trans c1, (k _).trans c2, (k _).trans c3, (k _).trans c4, (k _).trans c5, (k _).trans c6, (k _).trans c7, (k _).trans c8, (k _).trans c9, (k _).trans c10, (k _).trans c11⟩

/-- What alike's loop holds on to. -/
structure AlInv (p q : Pkt) (w wr : World) : Prop where
  a : InC p w.heap.size wr
  b : InC q (w.heap.size + 1) wr
  below : Below w.heap.size w wr

theorem AlInv.start (p q : Pkt) (w : World) : AlInv p q w ((w.alloc p.box).alloc q.box) := by
  refine ⟨(InC.new p w).below (B := w.heap.size + 1) ((Below.refl _ _).alloc (by simp) _) (by omega), ?_, ((Below.refl _ _).alloc (Nat.le_refl _) _).alloc (by simp) _⟩
  have h := InC.new q (w.alloc p.box)
  rw [World.size_alloc] at h
  exact h
theorem AlInv.drewN {p q : Pkt} {w wr : World} (h : AlInv p q w wr) (n : Nat) : AlInv p q w (wr.drewN n) := ⟨h.a, h.b, below_drewN h.below n⟩

end Go.Proofs.YtakaadcpaeiccabGreat

namespace Go.Proofs.YtakaadcpaeiccabGreat
open Go.RowKit

end Go.Proofs.YtakaadcpaeiccabGreat

namespace Go.Proofs.YtakaadcpaeiccabGreat
open Go.RowKit

end Go.Proofs.YtakaadcpaeiccabGreat

namespace Go.Proofs.YtakaadcpaeiccabGreat
open Go.RowKit

end Go.Proofs.YtakaadcpaeiccabGreat

namespace Go.Proofs.YtakaadcpaeiccabGreat
open Go.RowKit

end Go.Proofs.YtakaadcpaeiccabGreat

namespace Go.Proofs.YtakaadcpaeiccabGreat
open Go.RowKit

end Go.Proofs.YtakaadcpaeiccabGreat

namespace Go.Proofs.YtakaadcpaeiccabGreat
open Go.RowKit

end Go.Proofs.YtakaadcpaeiccabGreat

namespace Go.Proofs.YtakaadcpaeiccabGreat
open Go.RowKit

/-- Has the packet nothing but what its kind has? -/
def Pkt.likeB (p : Pkt) : Bool := decide (p.ln = p.ownP.ln) && alikeB p p.ownP

def Pkt.kindB (p : Pkt) : Bool := decide (p.kind = 1 ∨ p.kind = 2 ∨ p.kind = 9 ∨ (p.kind = 3 ∧ 1 ≤ p.ln ∧ p.ln ≤ 8))

/-- The document's answer and the program's ask the same of a packet. -/
theorem good_like (p : Pkt) : p.goodB = (p.likeB && decide (1 ≤ p.ttl ∧ p.ttl ≤ 255) && decide (0 ≤ p.hops ∧ p.hops ≤ 255) && decide (p.pay.size ≤ 16) && p.kindB) := by
  have hz : ∀ s : ByteArray, s = ⟨#[]⟩ ↔ s.size = 0 := fun s => ⟨fun h => by rw [h]; rfl, fun h => ByteArray.ext (Array.eq_empty_of_size_eq_zero h)⟩
  rw [Bool.eq_iff_iff]
  unfold Pkt.goodB Pkt.likeB Pkt.kindB alikeB
  have hs0 : (⟨#[]⟩ : ByteArray).size = 0 := rfl
  have he : ∀ s : ByteArray, s = ByteArray.empty ↔ s.size = 0 := hz
  by_cases h1 : p.kind = 1
  · simp only [Pkt.forP, Pkt.ownP, Pkt.cnt, fitsB, Pkt.blankB, h1, hz, if_true]
    cases p.unk <;> simp <;> grind
  by_cases h2 : p.kind = 2
  · simp [Pkt.forP, Pkt.ownP, Pkt.cnt, fitsB, Pkt.blankB, h2, hz]
    cases p.unk <;> simp <;> grind
  by_cases h3 : p.kind = 3
  · simp [Pkt.forP, Pkt.ownP, Pkt.cnt, fitsB, Pkt.blankB, h3, hz]
    cases p.unk <;> simp <;> grind
  by_cases h9 : p.kind = 9
  · simp [Pkt.forP, Pkt.ownP, Pkt.cnt, fitsB, Pkt.blankB, h9, hs0]
    cases p.unk <;> simp <;> grind
  · simp [Pkt.forP, Pkt.ownP, fitsB, Pkt.blankB, h1, h2, h3, h9]

end Go.Proofs.YtakaadcpaeiccabGreat

namespace Go.Proofs.YtakaadcpaeiccabGreat
open Go.RowKit

theorem HoldsL.below {w w' : World} {p : Pkt} {L : List (Int × Int)} (h : HoldsL w p L) (hb : Below w.heap.size w w') : HoldsL w' p L := by
  refine ⟨h.1, fun j hj => ?_⟩
  obtain ⟨lb, lo, d, s, h1, h2, h3, h4, h5, h6, h7, h8, h9⟩ := h.2 j hj
  exact ⟨lb, lo, d, s, h1, Nat.lt_of_lt_of_le h2 hb.size, h3, h4, h5, h6, h7, (hb.cell (p := ⟨lb, lo + j * 2, none⟩) h2).trans h8, (hb.cell (p := ⟨lb, lo + j * 2 + 1, none⟩) h2).trans h9⟩

theorem InB.alloc {p : Pkt} {w W : World} (h : InB p w W) (o : Obj) : InB p w (W.alloc o) := h.below ((Below.refl _ _).alloc (Nat.le_refl _) _)

end Go.Proofs.YtakaadcpaeiccabGreat

namespace Go.Proofs.YtakaadcpaeiccabGreat
open Go.RowKit

end Go.Proofs.YtakaadcpaeiccabGreat

namespace Go.Proofs.YtakaadcpaeiccabGreat
open Go.RowKit

end Go.Proofs.YtakaadcpaeiccabGreat

namespace Go.Proofs.YtakaadcpaeiccabGreat
open Go.RowKit

end Go.Proofs.YtakaadcpaeiccabGreat

namespace Go.Proofs.YtakaadcpaeiccabGreat
open Go.RowKit

end Go.Proofs.YtakaadcpaeiccabGreat

namespace Go.Proofs.YtakaadcpaeiccabGreat
open Go.RowKit

/-- The box, and one that is lost. -/
@[reducible] def InBL (p : Pkt) (w : World) (lb lo : Nat) (d s : Int) (W : World) : Prop :=
  InB p w W ∧ W.cell? ⟨lb, lo, none⟩ = some (.int .u32 d) ∧ W.cell? ⟨lb, lo + 1, none⟩ = some (.int .u32 s)
theorem InBL.drew {p : Pkt} {w : World} {lb lo : Nat} {d s : Int} {W : World} (h : InBL p w lb lo d s W) : InBL p w lb lo d s W.drew := ⟨h.1.drew', h.2⟩
theorem InBL.below {p : Pkt} {w : World} {lb lo : Nat} {d s : Int} {W W1 : World} (h : InBL p w lb lo d s W) (hlb : lb < w.heap.size) (hb : Below W.heap.size W W1) : InBL p w lb lo d s W1 := by
  have hs := h.1.2.2.2.2.2.2.2.2.2.2.2.2.1
  exact ⟨h.1.below hb, (hb.cell (p := ⟨lb, lo, none⟩) (Nat.lt_trans hlb hs)).trans h.2.1, (hb.cell (p := ⟨lb, lo + 1, none⟩) (Nat.lt_trans hlb hs)).trans h.2.2⟩

end Go.Proofs.YtakaadcpaeiccabGreat

namespace Go.Proofs.YtakaadcpaeiccabGreat
open Go.RowKit

end Go.Proofs.YtakaadcpaeiccabGreat

namespace Go.Proofs.YtakaadcpaeiccabGreat
open Go.RowKit

end Go.Proofs.YtakaadcpaeiccabGreat

namespace Go.Proofs.YtakaadcpaeiccabGreat
open Go.RowKit

end Go.Proofs.YtakaadcpaeiccabGreat

namespace Go.Proofs.YtakaadcpaeiccabGreat
open Go.RowKit

end Go.Proofs.YtakaadcpaeiccabGreat

namespace Go.Proofs.YtakaadcpaeiccabGreat
open Go.RowKit

theorem good_parts {p : Pkt} (h : p.goodB = true) : p.likeB = true ∧ 1 ≤ p.ttl ∧ p.ttl ≤ 255 ∧ 0 ≤ p.hops ∧ p.hops ≤ 255 ∧ p.pay.size ≤ 16 ∧ (p.kind = 1 ∨ p.kind = 2 ∨ p.kind = 9 ∨ (p.kind = 3 ∧ 1 ≤ p.ln ∧ p.ln ≤ 8)) := by
  rw [good_like] at h
  simp only [Bool.and_eq_true, decide_eq_true_eq, Pkt.kindB] at h
  obtain ⟨⟨⟨⟨h1, h2⟩, h3⟩, h4⟩, h5⟩ := h
  exact ⟨h1, h2.1, h2.2, h3.1, h3.2, h4, h5⟩

theorem like_parts {p : Pkt} (h : p.likeB = true) : p.ln = p.ownP.ln ∧ p.unk = p.ownP.unk ∧ p.hops = p.ownP.hops ∧ p.pay = p.ownP.pay := by
  simp only [Pkt.likeB, alikeB, Bool.and_eq_true, decide_eq_true_eq] at h
  exact ⟨h.1, h.2.2.2.2.1, h.2.2.2.1, h.2.2.2.2.2.2.2.2.2.2.2⟩

end Go.Proofs.YtakaadcpaeiccabGreat

namespace Go.Proofs.YtakaadcpaeiccabGreat
open Go.RowKit

/-- The cells of a list of what is lost, behind an address. -/
def HoldsA (w : World) (ao : Option Addr) (L : List (Int × Int)) : Prop :=
  ∀ j, j < L.length → ∃ lb lo d s, ao = some ⟨lb, lo, none⟩ ∧ lb < w.heap.size ∧ L[j]? = some (d, s) ∧ 0 ≤ d ∧ d < 4294967296 ∧ 0 ≤ s ∧ s < 4294967296 ∧
    w.cell? ⟨lb, lo + j * 2, none⟩ = some (.int .u32 d) ∧ w.cell? ⟨lb, lo + j * 2 + 1, none⟩ = some (.int .u32 s)

theorem HoldsA.below {w w' : World} {ao : Option Addr} {L : List (Int × Int)} (h : HoldsA w ao L) (hb : Below w.heap.size w w') : HoldsA w' ao L := by
  intro j hj
  obtain ⟨lb, lo, d, s, h1, h2, h3, h4, h5, h6, h7, h8, h9⟩ := h j hj
  exact ⟨lb, lo, d, s, h1, Nat.lt_of_lt_of_le h2 hb.size, h3, h4, h5, h6, h7, (hb.cell (p := ⟨lb, lo + j * 2, none⟩) h2).trans h8, (hb.cell (p := ⟨lb, lo + j * 2 + 1, none⟩) h2).trans h9⟩

theorem conv_row (W : World) (base : Nat) (v : Value) (xs : List Int) (h : W.ownsRow base 5 1 v xs.length (U xs)) (hv : v ≠ .slice none 0 0) :
    (convert 58 9 v).run Tryz.prog W = .ok (.string (strOfNums xs)) W := by
  rcases h.2 with ⟨rfl, _⟩ | ⟨g, cap, cur, rfl, _⟩
  · exact absurd rfl hv
  · refine run_convert_bytes_arg (P := Tryz.prog) W 58 5 Tryz.underlying58 Tryz.underlying5 g 0 xs.length cap xs rfl ?_ 9 Tryz.underlying9
    intro i hi
    rw [Nat.zero_add]
    rw [h.cellAt i (by simpa using hi)]
    simp [U, hi]
end Go.Proofs.YtakaadcpaeiccabGreat
