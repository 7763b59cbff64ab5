import Derived.Test.YtakaadcpaeiccabGreatC06
import Derived.Shelf.SlIter.Collect
import Derived.Maps.AppendAt
namespace Go.Proofs.YtakaadcpaeiccabGreat
open Go.RowKit Go.Maps Go.Sort

theorem info_u32 : (Tryz.prog.info? 34).map (fun i => (i.zero, i.size, i.bytes)) = some (some (.int .u32 0), 1, 4) := by kernel_rfl
/-- The round of AppendSeq's loop. -/
def apA : Code := .region 2 #[{ dst := some 5, op := .assign (.tmp 7), type := 34, pos := "iter.go:51", after := #[], guard := none }] false
def apB : Code := .block 1 (.region 3 #[{ dst := some 8, op := .load 36 (.tmp 2), type := 36, pos := "iter.go:52", after := #[], guard := none }, { dst := some 9, op := .move (.tmp 5), type := 34, pos := "iter.go:52", after := #[], guard := none }, { dst := some 10, op := .buildSlice 36 1 #[(0, .tmp 9)], type := 36, pos := "iter.go:52", after := #[{ on := 1, ground := .data }], guard := none }, { dst := some 11, op := .call { callee := .builtin .append, args := #[.tmp 8, .tmp 10], argTypes := #[36, 36] }, type := 36, pos := "iter.go:52", after := #[{ on := 0, ground := .data }, { on := 2, ground := .data }], guard := none }, { dst := none, op := .store 36 (.tmp 2) (.tmp 11), type := 0, pos := "iter.go:52", after := #[{ on := 3, ground := .data }, { on := 3, ground := .chain }, { on := 0, ground := .phase }, { on := 1, ground := .phase }, { on := 2, ground := .phase }, { on := 3, ground := .phase }], guard := none }] false)
def apRec (fn : FuncId) (sv : Value) (Bs D : Nat) (st : LoopState) (pend : Option Code) : Loop :=
  { state := st, pending := pend, fn, tmps := #[.slice none 0 0, sv, .pointer (some ⟨Bs, 0, none⟩), undef, .slice none 0 0, undef, sv, undef, undef, undef, undef, undef, undef], params := #[7], assign := apA, body := apB, defers := D }

/-- Between two rounds: the box holds a row of the call's own with what has come. -/
structure ApAt (w0 : World) (fn : FuncId) (sv : Value) (Bs l D : Nat) (ss : List Int) (W : World) : Prop where
  box : ∃ v, W.heap[Bs]? = some (.cells #[v] 36 (0, 0)) ∧ W.ownsRow w0.heap.size 34 1 v ss.length (ss.map encU) ∧ (v = .slice none 0 0 ↔ ss = [])
  L : W.heap[l]? = some (.loop (apRec fn sv Bs D .ready none))
  K : W.heap[D]? = some (.deferred (some []))
  below : Below w0.heap.size w0 W

theorem ap_abides (w0 : World) (fn : FuncId) (sv : Value) (Bs l D B : Nat) (hB : w0.heap.size ≤ B) : AbidesFrom B (ApAt w0 fn sv Bs l D) := fun s W W' row h hg hrow => by
  have hrow' : ∀ r, row = some r → ∃ o : Obj, W.heap[r]? = some o ∧ o.isWalk = true := fun r e => (hrow r e).2
  obtain ⟨v, hv, hr, hn⟩ := h.box
  exact ⟨⟨v, (grownBy_keeps hg hrow' hv rfl).trans hv, ownsRow_abides_a hr hg hrow', hn⟩, (grownBy_keeps hg hrow' h.L rfl).trans h.L, (grownBy_keeps hg hrow' h.K rfl).trans h.K,
    h.below.grown hg h.below.size (fun k e => Nat.le_trans hB (hrow k e).1)⟩

set_option maxRecDepth 100000 in
set_option maxHeartbeats 2000000 in
theorem ap_yield (F : Fence) (m : Nat) (w0 : World) (fn : FuncId) (hfn : F.fn fn) (sv : Value) (Bs l D : Nat) (hBl : Bs ≠ l) (hDl : D ≠ l) (hDB : D ≠ Bs) (h0B : w0.heap.size ≤ Bs) (h0l : w0.heap.size ≤ l)
    (N : Nat) (hN : N ≤ maxLen) (hNb : N * 4 ≤ 140737488355328) (ss : List Int) (x : Int) (W : World) (h : ApAt w0 fn sv Bs l D ss W) (hlen : ss.length < N) :
    YieldAt F m Tryz.prog l #[encU x] W fun e W' => e = .returned (.bool true) ∧ ApAt w0 fn sv Bs l D (ss ++ [x]) W' ∧ KeepsWalks W W' := by
  obtain ⟨i0, hi, hz0, hz1, hz2⟩ := info_parts info_u32
  obtain ⟨v, hv, hrow, _⟩ := h.box
  refine ⟨fn, #[.slice none 0 0, sv, .pointer (some ⟨Bs, 0, none⟩), undef, .slice none 0 0, undef, sv, encU x, undef, undef, undef, undef, undef], apA, apB, by simpa [apRec] using run_yield (P := Tryz.prog) (args := #[encU x]) h.L rfl, roundIn_of_wpIn hfn ?_⟩
  have hl : l < W.heap.size := (Array.getElem?_eq_some_iff.1 h.L).1
  have hbr := run_beginRound (P := Tryz.prog) h.L rfl
  obtain ⟨W2, hW2⟩ : ∃ W2, W.putObj l (.loop { apRec fn sv Bs D .ready none with state := .busy }) = W2 := ⟨_, rfl⟩
  rw [hW2] at hbr
  have hg2 : W.grownBy W2 (some l) := by rw [← hW2]; exact grownBy_putObj_a _ _ _
  have hk2 : KeepsWalks W W2 := by rw [← hW2]; exact KeepsWalks.putObj _ h.L rfl
  have hv2 : W2.heap[Bs]? = some (.cells #[v] 36 (0, 0)) := by rw [← hW2]; exact (World.putObj_heap_other hBl).trans hv
  have hK2 : W2.heap[D]? = some (.deferred (some [])) := by rw [← hW2]; exact (World.putObj_heap_other hDl).trans h.K
  have hL2 : W2.heap[l]? = some (.loop { apRec fn sv Bs D .ready none with state := .busy }) := by rw [← hW2]; exact World.putObj_heap_same hl
  have hrow2 : W2.ownsRow w0.heap.size 34 1 v ss.length (ss.map encU) := hrow.kept hg2 (ownsRow_ne_a hrow h.L (fun cur e => by cases e))
  have hb2 : Below w0.heap.size w0 W2 := h.below.grown hg2 h.below.size (fun k e => by cases e; exact h0l)
  obtain ⟨hc2, hf2⟩ := cell_of_box_a hv2
  have hBlt : Bs < W2.heap.size := (Array.getElem?_eq_some_iff.1 hv2).1
  have hl2 : l < W2.heap.size := (Array.getElem?_eq_some_iff.1 hL2).1
  have hDlt : D < W2.heap.size := (Array.getElem?_eq_some_iff.1 hK2).1
  have ne_of : ∀ {j : Nat} {o : Obj}, W2.heap[j]? = some o → (∀ cur, o ≠ .cells cur 34 (0, 0)) → some j ≠ v.ownBlock := fun hj hno => by
    rcases ownsRow_ne_a hrow2 hj hno with e | e
    · rw [e]; simp
    · exact fun e' => e e'.symm
  clear hW2
  unfold apA
  gi_wp2_with (rw [Oper.semAt_eq _ _ _ (fun c h => by cases h)]; go_simp; try go_bits)
  unfold apB
  gi_wp2_with (first
    | (gi_at_builtin; refine wpListIn_append_own _ rfl _ _ 36 rfl w0.heap.size 34 i0 (.int .u32 0) 1 4 Tryz.underlying36 hi hz0 hz1 hz2 rfl (by decide) _ _ _ rfl (hrow2.alloc _) ⟨W2.heap.size, 0, none⟩ 1 1 [encU x] rfl rfl (cell_one_new _ _ _) (by simp [Value.oneCell', encU]) (by omega) (by omega) (by have := hb2.size; simp; omega) ?_; intro v' w3 hown' hg3 hnil3
       have hv3 : w3.heap[Bs]? = some (.cells #[v] 36 (0, 0)) := (hg3.block Bs (by simp; omega) (ne_of hv2 (fun cur e => by cases e))).trans ((Below.heap_alloc _ _ Bs hBlt).trans hv2)
       obtain ⟨hc3, hf3⟩ := cell_of_box_a hv3
       obtain ⟨g', cap', cur', rfl, hbase', hgb', hr1, hr2, hr3, hr4⟩ : ∃ g' cap' cur', v' = .slice (some ⟨g', 0, none⟩) (ss.length + 1) cap' ∧ w0.heap.size ≤ g' ∧ w3.heap[g']? = some (.cells cur' 34 (0, 0)) ∧ ss.length + 1 ≤ cap' ∧ cap' ≤ maxLen ∧ cur'.size = cap' * 1 ∧ cur'.toList.take ((ss.length + 1) * 1) = ss.map encU ++ [encU x] := by
         rcases hown'.2 with ⟨_, h0⟩ | h'
         · exact absurd h0 (by omega)
         · exact h'
       go_frame)
    | (rw [Oper.semAt_eq _ _ _ (fun c h => by cases h)]; go_simp; try go_bits))
  have hg3' : (W2.alloc (.cells #[encU x] 34)).grownBy w3 v.ownBlock := hg3
  have hL3 : w3.heap[l]? = some (.loop { apRec fn sv Bs D .ready none with state := .busy }) := (hg3'.block l (by simp; omega) (ne_of hL2 (fun cur e => by cases e))).trans ((Below.heap_alloc _ _ l hl2).trans hL2)
  have hK3 : w3.heap[D]? = some (.deferred (some [])) := (hg3'.block D (by simp; omega) (ne_of hK2 (fun cur e => by cases e))).trans ((Below.heap_alloc _ _ D hDlt).trans hK2)
  obtain ⟨w4, hw4⟩ : ∃ w4, w3.setCell ⟨Bs, 0, none⟩ (.slice (some ⟨g', 0, none⟩) (ss.length + 1) cap') = w4 := ⟨_, rfl⟩
  rw [hw4]
  have hg4 : w3.grownBy w4 (some Bs) := by rw [← hw4]; exact grownBy_setCell0_a _ _ _
  have hv4 : w4.heap[Bs]? = some (.cells #[.slice (some ⟨g', 0, none⟩) (ss.length + 1) cap'] 36 (0, 0)) := by rw [← hw4]; exact heap_setCell_box_a _ hv3
  have hL4 : w4.heap[l]? = some (.loop { apRec fn sv Bs D .ready none with state := .busy }) := (hg4.block l (Array.getElem?_eq_some_iff.1 hL3).1 (fun e => hBl (by cases e; rfl))).trans hL3
  have hK4 : w4.heap[D]? = some (.deferred (some [])) := (hg4.block D (Array.getElem?_eq_some_iff.1 hK3).1 (fun e => hDB (by cases e; rfl))).trans hK3
  have hrow4 := hown'.kept hg4 (ownsRow_ne_a hown' hv3 (fun cur e => by cases e))
  have hl4 : l < w4.heap.size := (Array.getElem?_eq_some_iff.1 hL4).1
  have hb3 : Below w0.heap.size w0 w3 := (hb2.alloc hb2.size _).grown hg3' (by have := hb2.size; simp; omega) (fun k e => (hrow2.lt k e).1)
  have hb4 : Below w0.heap.size w0 w4 := hb3.grown hg4 hb3.size (fun k e => by cases e; exact h0B)
  have hk4 : KeepsWalks W w4 := ((hk2.trans (KeepsWalks.alloc _ _)).trans (KeepsWalks.of_grownBy hg3' (ownsRow_not_walk_a (hrow2.alloc _)))).trans (by rw [← hw4]; exact KeepsWalks.setCell _ _ _)
  clear hw4
  refine ⟨_, _, run_endRound none hL4, rfl, ⟨⟨_, (World.putObj_heap_other hBl).trans hv4, ?_, by simp⟩, World.putObj_heap_same hl4, (World.putObj_heap_other hDl).trans hK4, hb4.grown (grownBy_putObj_a _ _ _) hb4.size (fun k e => by cases e; exact h0l)⟩, hk4.trans (KeepsWalks.putObj _ hL4 rfl)⟩
  have := hrow4.kept (grownBy_putObj_a w4 l (.loop { { apRec fn sv Bs D .ready none with state := .busy } with state := if (none : Option Code).isNone then .ready else .done, pending := none })) (ownsRow_ne_a hrow4 hL4 (fun cur e => by cases e))
  simpa using this

set_option maxRecDepth 100000 in
set_option maxHeartbeats 2000000 in
/-- slices.AppendSeq onto nil, against whatever iterator. -/
theorem appendSeq_in (F : Fence) (n : Nat) (h11 : F.fn 171) (hro : F.round = none) (hn : 2 ≤ n) (g : Nat) (lb : Array Value) (hFg : F.fn g) (eg : ∀ args w, (callFunc g args).run Tryz.prog w = .ok (.enter g args) w)
    (S : List Int → Prop) (N : Nat) (hN : N ≤ maxLen) (hNb : N * 4 ≤ 140737488355328) (w : World) (hseq : SeqGives F (n - 1) Tryz.prog g lb encU S N w) :
    CallsIn F n Tryz.prog 171 #[.slice none 0 0, .func (.func g) #[] lb] w fun e w' => ∃ (v : Value) (ss : List Int), e = .returned v ∧ S ss ∧ w'.ownsRow w.heap.size 34 1 v ss.length (ss.map encU) ∧ (v = .slice none 0 0 ↔ ss = []) ∧ Below w.heap.size w w' := by
  have h1 : 1 ≤ n := by omega
  refine callsIn_of_wp_marks Tryz.func171 rfl h11 ?_ hro
  simp only [Tryz.ntmps171, List.size_toArray, List.length_cons, List.length_nil, Nat.reduceAdd, Nat.reduceSub, Array.replicate_succ, Array.replicate_zero, List.push_toArray, List.append_toArray, List.nil_append, List.cons_append]
  gi_wp2
  refine wpIn_rangeFunc ?_
  intro fn hfn
  rw [hro]
  obtain ⟨W0, hW0⟩ : ∃ W0, w.alloc (.cells #[.slice none 0 0] 36) = W0 := ⟨_, rfl⟩
  have hs0 : W0.heap.size = w.heap.size + 1 := by rw [← hW0]; simp
  have hv0 : W0.heap[w.heap.size]? = some (.cells #[.slice none 0 0] 36 (0, 0)) := by rw [← hW0]; exact World.alloc_heap_new w _
  have hb0 : Below w.heap.size w W0 := by rw [← hW0]; exact (Below.refl _ w).alloc (Nat.le_refl _) _
  rw [hW0]
  obtain ⟨W1, hW1⟩ : ∃ W1, (W0.alloc (.deferred (some []))).alloc (.loop (apRec fn (.func (.func g) #[] lb) w.heap.size W0.heap.size .ready none)) = W1 := ⟨_, rfl⟩
  have hold : ∀ k, k < W0.heap.size → W1.heap[k]? = W0.heap[k]? := fun k hk => by
    rw [← hW1]; exact (Below.heap_alloc _ _ k (by simp; omega)).trans (Below.heap_alloc _ _ k hk)
  have hb1 : Below w.heap.size w W1 := by rw [← hW1]; exact (hb0.alloc hb0.size _).alloc (by have := hb0.size; simp; omega) _
  have hs1 : W1.heap.size = W0.heap.size + 2 := by rw [← hW1]; simp
  have hM : ApAt w fn (.func (.func g) #[] lb) w.heap.size (W0.heap.size + 1) W0.heap.size [] W1 :=
    ⟨⟨_, (hold w.heap.size (by omega)).trans hv0, ⟨rfl, .inl ⟨rfl, rfl⟩⟩, by simp⟩,
     by rw [← hW1]; have := World.alloc_heap_new (W0.alloc (.deferred (some []))) (.loop (apRec fn (.func (.func g) #[] lb) w.heap.size W0.heap.size .ready none)); rwa [World.size_alloc] at this,
     by rw [← hW1]; exact (Below.heap_alloc _ _ _ (by simp)).trans (World.alloc_heap_new W0 _), hb1⟩
  refine ⟨W0.heap.size + 1, [{ target := .collected W0.heap.size, args := #[] }], W1, { target := .fn (.func g) lb, args := #[.func (.yield (W0.heap.size + 1)) #[] #[]] }, W1, g,
    #[.func (.yield (W0.heap.size + 1)) #[] #[]] ++ lb, W1, ?_, ?_, ?_, ?_, fun _ => h1, ?_⟩
  · rw [← hW1]; exact run_enterLoop_outer _ _ _ _ _
  · simp [resolve, go_sem]
  · intro f' hf'; simp [Target.leads] at hf'; subst hf'; exact hFg
  · simp [invoke, go_sem, eg]
  · refine (hseq (W0.heap.size + 1) (ApAt w fn (.func (.func g) #[] lb) w.heap.size (W0.heap.size + 1) W0.heap.size) W1 hb1 (ap_abides _ _ _ _ _ _ _ hb1.size)
      (fun pre x W hJ hl => ap_yield F (n - 1 - 1) w fn hfn _ w.heap.size (W0.heap.size + 1) W0.heap.size (by omega) (by omega) (by omega) (Nat.le_refl _) (by omega) N hN hNb pre x W hJ hl) hM).mono ?_
    rintro e W2 ⟨⟨v0, rfl⟩, ss, hS, h2⟩
    obtain ⟨v, hv, hrow, hnil⟩ := h2.box
    have hend := run_endLoop (P := Tryz.prog) h2.L (by simp [apRec])
    obtain ⟨W3, hW3⟩ : ∃ W3, W2.putObj (W0.heap.size + 1) (.loop { apRec fn (.func (.func g) #[] lb) w.heap.size W0.heap.size .ready none with state := .exhausted }) = W3 := ⟨_, rfl⟩
    rw [hW3] at hend
    have hg3 : W2.grownBy W3 (some (W0.heap.size + 1)) := by rw [← hW3]; exact grownBy_putObj_a _ _ _
    have hv3 : W3.heap[w.heap.size]? = some (.cells #[v] 36 (0, 0)) := by rw [← hW3]; exact (World.putObj_heap_other (by omega)).trans hv
    have hK3 : W3.heap[W0.heap.size]? = some (.deferred (some [])) := by rw [← hW3]; exact (World.putObj_heap_other (by omega)).trans h2.K
    have hrow3 := hrow.kept hg3 (ownsRow_ne_a hrow h2.L (fun cur e => by cases e))
    have hb3 : Below w.heap.size w W3 := h2.below.grown hg3 h2.below.size (fun k e => by cases e; omega)
    obtain ⟨hc3, hf3⟩ := cell_of_box_a hv3
    clear hW3
    refine ⟨none, W3, hend, ?_⟩
    gi_wp2
    rw [← hs0]
    refine ⟨by simp, .inl ⟨_, _, rfl, run_takeDeferred hK3, ?_⟩⟩
    exact ⟨_, results_tmp rfl _ _ _, v, ss, rfl, hS, hrow3.kept (grownBy_putObj_a _ _ _) (ownsRow_ne_a hrow3 hK3 (fun cur e => by cases e)), hnil, hb3.grown (grownBy_putObj_a _ _ _) hb3.size (fun k e => by cases e; omega)⟩

set_option maxHeartbeats 1000000 in
/-- slices.Collect, against whatever iterator. -/
theorem collect_in (F : Fence) (n : Nat) (h8 : F.fn 139) (h11 : F.fn 171) (hro : F.round = none) (hn : 3 ≤ n) (g : Nat) (lb : Array Value) (hFg : F.fn g) (eg : ∀ args w, (callFunc g args).run Tryz.prog w = .ok (.enter g args) w)
    (S : List Int → Prop) (N : Nat) (hN : N ≤ maxLen) (hNb : N * 4 ≤ 140737488355328) (w : World) (hseq : SeqGives F (n - 1 - 1) Tryz.prog g lb encU S N w) :
    CallsIn F n Tryz.prog 139 #[.func (.func g) #[] lb] w fun e w' => ∃ (v : Value) (ss : List Int), e = .returned v ∧ S ss ∧ w'.ownsRow w.heap.size 34 1 v ss.length (ss.map encU) ∧ (v = .slice none 0 0 ↔ ss = []) ∧ Below w.heap.size w w' := by
  have h1 : 1 ≤ n := by omega
  refine callsIn_of_wp Tryz.func139 rfl h8 ?_ hro
  simp only [Tryz.ntmps139, List.size_toArray, List.length_cons, List.length_nil, Nat.reduceAdd, Nat.reduceSub, Array.replicate_succ, Array.replicate_zero, List.push_toArray, List.append_toArray, List.nil_append, List.cons_append]
  gi_wp2_with (gi_at_call 171; refine (appendSeq_in F (n - 1) h11 hro (by omega) g lb hFg eg S N hN hNb _ hseq).mono ?_; rintro e w' ⟨v, ss, rfl, hS, hrow, hnil, hb⟩)
  go_ret
  exact ⟨v, ss, rfl, hS, hrow, hnil, hb⟩
end Go.Proofs.YtakaadcpaeiccabGreat

namespace Go.Proofs.YtakaadcpaeiccabGreat
open Go.RowKit Go.Maps

theorem src_u32 {W : World} {base : Nat} {v : Value} {n : Nat} {cs : List Int} (h : W.ownsRow base 34 1 v n (cs.map encU)) : Src Tryz.prog 1 36 v n (cs.map encU) W := by
  obtain ⟨ao, c, rfl, hH⟩ := row_form h
  exact hH.src Tryz.underlying36 c h.1 (by decide) (fun u hu => by
    obtain ⟨y, _, rfl⟩ := List.mem_map.1 hu
    rfl)

set_option maxRecDepth 100000 in
set_option maxHeartbeats 2000000 in
/-- slices.Clone: a row of its own. -/
theorem Clone_any (v : Value) (n : Nat) (cs : List Int) (hn : n ≤ 1000000) (w : World) (h : w.ownsRow 0 34 1 v n (cs.map encU)) :
    Calls Tryz.prog 135 #[v] w fun e w' => ∃ v', e = .returned v' ∧ w'.ownsRow w.heap.size 34 1 v' n (cs.map encU) ∧ Below w.heap.size w w' := by
  obtain ⟨i0, hi, hz0, hz1, hz2⟩ := info_parts info_u32
  have hsrc := src_u32 h
  have hbe : Below w.heap.size w (w.alloc (.cells #[] 34)) := (Below.refl _ _).alloc (Nat.le_refl _) _
  have hoe : (w.alloc (.cells #[] 34)).ownsRow w.heap.size 34 1 (.slice (some ⟨w.heap.size, 0, none⟩) 0 0) 0 [] :=
    ⟨rfl, .inr ⟨w.heap.size, 0, _, rfl, Nat.le_refl _, heap_alloc_new w _, Nat.le_refl _, by decide, rfl, rfl⟩⟩
  have hne : w.heap.size ≤ (w.alloc (.cells #[] 34)).heap.size := by simp
  have hsrc' : Src Tryz.prog 1 36 v n (cs.map encU) (w.alloc (.cells #[] 34)) := src_u32 (step_append_kept h hbe)
  rcases h.2 with ⟨rfl, rfl⟩ | ⟨g, cap, cur, rfl, rest⟩
  · have hq := fun W => Lib.run_eql_slice_nil (P := Tryz.prog) W 36 34 none 0 0 0 0 Tryz.underlying36
    simp only [Option.isNone_none] at hq
    have hcs : cs.map encU = [] := List.eq_nil_of_length_eq_zero h.1
    clear hsrc hbe hoe hne hsrc'
    go_enter Tryz.func135, Tryz.ntmps135
    go_wp2
    go_ret
    exact ⟨_, rfl, ⟨h.1, .inl ⟨rfl, rfl⟩⟩, Below.refl _ _⟩
  · have hq := fun W => Lib.run_eql_slice_nil (P := Tryz.prog) W 36 34 (some ⟨g, 0, none⟩) n cap 0 0 Tryz.underlying36
    simp only [Option.isNone_some] at hq
    clear rest hsrc
    go_enter Tryz.func135, Tryz.ntmps135
    go_wp2_with (at_builtin; refine wpList_append_own_src _ rfl _ _ 36 36 rfl w.heap.size 34 i0 (.int .u32 0) 1 4 Tryz.underlying36 hi hz0 hz1 hz2 rfl (.slice (some ⟨w.heap.size, 0, none⟩) 0 0) 0 [] rfl hoe (by simp) (.slice (some ⟨g, 0, none⟩) n cap) n (cs.map encU) rfl hsrc' ?c1 ?c2 hne ?_)
    case c1 => unfold maxLen; omega
    case c2 => omega
    intro v7 W7 ho7 hg7 _
    have hb7 := hbe.grown hg7 hne (fun k hk => (hoe.lt k hk).1)
    clear hq hsrc' hbe hoe hne hg7
    go_wp2
    go_ret
    exact ⟨v7, rfl, by simpa using ho7, hb7⟩

/-- A line stored whole. -/
@[reducible] def store7 (W : World) (B : Nat) (x : Rt) (v : Value) : World := ((((((W.setCell ⟨B, 0, none⟩ (.int .u32 x.dest)).setCell ⟨B, 1, none⟩ (.int .u32 x.seq)).setCell ⟨B, 2, none⟩ (.int .i64 x.hops)).setCell ⟨B, 3, none⟩ (.int .u32 x.next)).setCell ⟨B, 4, none⟩ (.bool x.valid)).setCell ⟨B, 5, none⟩ (.int .u64 x.exp)).setCell ⟨B, 6, none⟩ v
theorem LnB.store {B : Nat} {y : Rt} {u : Value} {W : World} (h : LnB B y u W) (x : Rt) (v : Value) : LnB B x v (store7 W B x v) := by
  unfold LnB at h ⊢
  simp [World.setCell, Array.getElem?_modify, h]
theorem grown_store7 (W : World) (B : Nat) (x : Rt) (v : Value) : W.grownBy (store7 W B x v) (some B) :=
  grown_cellOf (grown_cellOf (grown_cellOf (grown_cellOf (grown_cellOf (grown_cellOf (grown_cellOf (grown_self _ _) 0 _) 1 _) 2 _) 3 _) 4 _) 5 _) 6 _

set_option maxRecDepth 100000 in
set_option maxHeartbeats 2000000 in
/-- A line handed out: its list is a row of its own. -/
theorem handOut_sl (B : Nat) (x : Rt) (ao : Option Addr) (c : Nat) (hn : x.bef.length ≤ 4) (w : World) (h : LnB B x (.slice ao x.bef.length c) w) (hr : w.ownsRow 0 34 1 (.slice ao x.bef.length c) x.bef.length (x.bef.map encU)) :
    Calls Tryz.prog 96 #[.pointer (some ⟨B, 0, none⟩)] w fun e w' => ∃ v', e = .returned (rtV x v') ∧ w'.ownsRow w.heap.size 34 1 v' x.bef.length (x.bef.map encU) ∧ Below w.heap.size w w' := by
  obtain ⟨c0, c1, c2, c3, c4, c5, c6⟩ := (h.later ((Below.refl _ w).alloc (Nat.le_refl _) (rtBox ⟨0, 0, 0, 0, false, 0, []⟩ (.slice none 0 0)))).cell
  obtain ⟨e0, e1, e2, e3, e4, e5, e6⟩ := (h.later (((Below.refl _ w).alloc (Nat.le_refl _) (rtBox ⟨0, 0, 0, 0, false, 0, []⟩ (.slice none 0 0))).alloc (by simp) (rtBox x (.slice ao x.bef.length c)))).cell
  have hb1 : Below w.heap.size w ((w.alloc (rtBox ⟨0, 0, 0, 0, false, 0, []⟩ (.slice none 0 0))).alloc (rtBox x (.slice ao x.bef.length c))) := ((Below.refl _ _).alloc (Nat.le_refl _) _).alloc (by simp) _
  have hZ := (LnB.new ⟨0, 0, 0, 0, false, 0, []⟩ (.slice none 0 0) w).later ((Below.refl _ _).alloc (Nat.le_refl _) (rtBox x (.slice ao x.bef.length c)))
  have hN := LnB.new x (.slice ao x.bef.length c) (w.alloc (rtBox ⟨0, 0, 0, 0, false, 0, []⟩ (.slice none 0 0)))
  rw [World.size_alloc] at hN
  have hr1 := step_append_kept hr hb1
  have hs2 : w.heap.size + 2 ≤ ((w.alloc (rtBox ⟨0, 0, 0, 0, false, 0, []⟩ (.slice none 0 0))).alloc (rtBox x (.slice ao x.bef.length c))).heap.size := by simp
  dsimp only [rtBox] at hb1 hZ hN hr1 hs2 c0 c1 c2 c3 c4 c5 c6 e0 e1 e2 e3 e4 e5 e6
  go_enter Tryz.func96, Tryz.ntmps96
  go_wp2_with fail
  clear c0 c1 c2 c3 c4 c5 c6 e0 e1 e2 e3 e4 e5 e6
  generalize World.alloc _ _ = W1 at hb1 hZ hN hr1 hs2 ⊢
  refine (Clone_any (.slice ao x.bef.length c) x.bef.length x.bef (by omega) _ hr1).mono ?_
  rintro e W2 ⟨v', rfl, ho2, hb2⟩
  obtain ⟨ao2, c2', rfl, _⟩ := row_form ho2
  have hZ2 := hZ.later hb2
  have hN2 := hN.later hb2
  have hbb := hb1.trans (hb2.mono hb1.size)
  have hsz := hb1.size
  have f6 := hN2.free 6
  have hzf := hZ2.free
  obtain ⟨n0, n1, n2, n3, n4, n5, n6⟩ := hN2.cell
  obtain ⟨z0, z1, z2, z3, z4, z5, z6⟩ := hZ2.cell
  have hN3 := hN2.set6 (.slice ao2 x.bef.length c2') x.bef
  have hg3 : W2.grownBy (W2.setCell ⟨w.heap.size + 1, 6, none⟩ (.slice ao2 x.bef.length c2')) (some (w.heap.size + 1)) := grown_cellOf (grown_self _ _) 6 _
  have hZ3 := hZ2.block (hg3.block w.heap.size (by have := hN2.lt; omega) (by simp))
  have hF := hZ3.store x (.slice ao2 x.bef.length c2')
  have hg4 := grown_store7 (W2.setCell ⟨w.heap.size + 1, 6, none⟩ (.slice ao2 x.bef.length c2')) w.heap.size x (.slice ao2 x.bef.length c2')
  have hlt := ho2.lt
  have ho3 := ho2.kept hg3 (.inr (fun e => by have := (hlt _ e).1; omega))
  have ho4 := ho3.kept hg4 (.inr (fun e => by have := (hlt _ e).1; omega))
  have hG : Below w.heap.size w (store7 (W2.setCell ⟨w.heap.size + 1, 6, none⟩ (.slice ao2 x.bef.length c2')) w.heap.size x (.slice ao2 x.bef.length c2')) := (hbb.grown hg3 hbb.size (fun k e => by cases e; omega)).grown hg4 (Nat.le_trans hbb.size hg3.size) (fun k e => by cases e; exact Nat.le_refl _)
  clear hZ hN hr1 hb2 hb1 hN3 hg3 hZ3 hg4 ho3 hlt
  go_wp2
  dsimp only [store7] at hF hG ho4
  generalize World.setCell _ _ _ = W8 at hF hG ho4 ⊢
  obtain ⟨q0, q1, q2, q3, q4, q5, q6⟩ := hF.cell
  exact bodyPost_ret (v := rtV x (.slice ao2 x.bef.length c2')) (by simp [results, Tryz.results96, go_sem, q0, q1, q2, q3, q4, q5, q6]) rfl ⟨_, rfl, ownsRow_base_a ho4 (by omega), hG⟩

theorem handOut_any (B : Nat) (x : Rt) (v : Value) (hn : x.bef.length ≤ 4) (w : World) (h : LnB B x v w) (hr : w.ownsRow 0 34 1 v x.bef.length (x.bef.map encU)) :
    Calls Tryz.prog 96 #[.pointer (some ⟨B, 0, none⟩)] w fun e w' => ∃ v', e = .returned (rtV x v') ∧ w'.ownsRow w.heap.size 34 1 v' x.bef.length (x.bef.map encU) ∧ Below w.heap.size w w' := by
  obtain ⟨ao, c, rfl, _⟩ := row_form hr
  exact handOut_sl B x ao c hn w h hr

set_option maxRecDepth 100000 in
set_option maxHeartbeats 2000000 in
/-- TO END a line. -/
theorem end_any (B : Nat) (x : Rt) (v : Value) (s : Int) (w : World) (h : LnB B x v w) :
    Calls Tryz.prog 113 #[.pointer (some ⟨B, 0, none⟩), .int .u32 s] w fun e w' => e = .returned (.tuple #[]) ∧ LnB B (endR x s) (.slice none 0 0) w' ∧ w.grownBy w' (some B) := by
  obtain ⟨c0, c1, c2, c3, c4, c5, c6⟩ := h.cell
  have hf := h.free
  have h1 : Hid (∀ y : Int, y = max (gr x.seq) s → LnB B (endR x s) (.slice none 0 0) ((((w.setCell ⟨B, 1, none⟩ (.int .u32 y)).setCell ⟨B, 4, none⟩ (.bool false)).setCell ⟨B, 5, none⟩ (.int .u64 0)).setCell ⟨B, 6, none⟩ (.slice none 0 0))) := by
    rintro y rfl
    exact (((h.set1 (max (gr x.seq) s)).set4 false).set5 0).set6 (.slice none 0 0) []
  have hg : ∀ u, w.grownBy ((((w.setCell ⟨B, 1, none⟩ u).setCell ⟨B, 4, none⟩ (.bool false)).setCell ⟨B, 5, none⟩ (.int .u64 0)).setCell ⟨B, 6, none⟩ (.slice none 0 0)) (some B) :=
    fun u => grown_cellOf (grown_cellOf (grown_cellOf (grown_cellOf (grown_self _ _) 1 _) 4 _) 5 _) 6 _
  go_enter Tryz.func113, Tryz.ntmps113
  go_wp2_with fail
  refine (grown_any _ _).mono ?_
  rintro e w1 ⟨rfl, rfl⟩
  go_wp2
  all_goals
    go_returns
    exact ⟨rfl, h1.out _ (by omega), hg _⟩
end Go.Proofs.YtakaadcpaeiccabGreat

namespace Go.Proofs.YtakaadcpaeiccabGreat
open Go.RowKit Go.Maps

/-- Nothing but the blocks of S has turned. -/
structure Fx (S : Nat → Prop) (w w' : World) : Prop where
  os : w'.os = w.os
  tape : w'.tape = w.tape
  output : w'.output = w.output
  size : w.heap.size ≤ w'.heap.size
  block : ∀ k, k < w.heap.size → ¬ S k → w'.heap[k]? = w.heap[k]?
theorem Fx.refl (S : Nat → Prop) (w : World) : Fx S w w := ⟨rfl, rfl, rfl, Nat.le_refl _, fun _ _ _ => rfl⟩
theorem Fx.trans {S S' : Nat → Prop} {a b c : World} (h : Fx S a b) (k : Fx S' b c) (hs : ∀ i, i < a.heap.size → S' i → S i) : Fx S a c :=
  ⟨k.os.trans h.os, k.tape.trans h.tape, k.output.trans h.output, Nat.le_trans h.size k.size, fun i hi hn => (k.block i (Nat.lt_of_lt_of_le hi h.size) (fun e => hn (hs i hi e))).trans (h.block i hi hn)⟩
theorem Fx.mono {S S' : Nat → Prop} {a b : World} (h : Fx S a b) (hs : ∀ i, S i → S' i) : Fx S' a b :=
  ⟨h.os, h.tape, h.output, h.size, fun i hi hn => h.block i hi (fun e => hn (hs i e))⟩
theorem Fx.below {S : Nat → Prop} {a b : World} (h : Below a.heap.size a b) : Fx S a b := ⟨h.os, h.tape, h.output, h.size, fun k hk _ => h.block k hk⟩
theorem Fx.grown {S : Nat → Prop} {a b : World} {r : Option Nat} (h : a.grownBy b r) (hr : ∀ k, r = some k → S k) : Fx S a b :=
  ⟨h.os, h.tape, h.output, h.size, fun k hk hn => h.block k hk (fun e => hn (hr k e.symm))⟩
theorem Fx.toBelow {S : Nat → Prop} {a b : World} {n : Nat} (h : Fx S a b) (hn : n ≤ a.heap.size) (hs : ∀ k, k < n → ¬ S k) : Below n a b :=
  ⟨h.os, h.tape, h.output, h.size, fun k hk => h.block k (Nat.lt_of_lt_of_le hk hn) (hs k hk)⟩
theorem row_at {W W' : World} {base e size n : Nat} {v : Value} {cs : List Value} (h : W.ownsRow base e size v n cs) (he : ∀ k, v.ownBlock = some k → W'.heap[k]? = W.heap[k]?) : W'.ownsRow base e size v n cs := by
  refine ⟨h.1, ?_⟩
  rcases h.2 with hn | ⟨g, cap, cur, rfl, h1, h2, h3⟩
  · exact .inl hn
  · exact .inr ⟨g, cap, cur, rfl, h1, (he g rfl).trans h2, h3⟩

/-- The blocks of a table. -/
def TIn (T M : Nat) (f : Int → Option Nat) (g : Int → Value) (A : List Rt) (k : Nat) : Prop :=
  k = T ∨ k = M ∨ ∃ x ∈ A, f x.dest = some k ∨ (g x.dest).ownBlock = some k
/-- A table, laid in memory: f: the line of a destination; g: its list of neighbours. -/
structure MT (me : Int) (T M : Nat) (f : Int → Option Nat) (g : Int → Value) (A : List Rt) (W : World) : Prop where
  blk : TbB T me M W
  map : MapP W M f A.length
  asc : Asc A
  ok : ∀ x ∈ A, x.Ok
  dom : ∀ d B, U32 d → f d = some B → ∃ x ∈ A, x.dest = d
  ln : ∀ x ∈ A, ∃ B, f x.dest = some B ∧ LnB B x (g x.dest) W
  row : ∀ x ∈ A, W.ownsRow 0 34 1 (g x.dest) x.bef.length (x.bef.map encU)
  apart : ∀ x ∈ A, ∀ y ∈ A, x.dest ≠ y.dest → (g x.dest).ownBlock = none ∨ (g x.dest).ownBlock ≠ (g y.dest).ownBlock
  len : A.length ≤ 8
theorem MT.kept {me : Int} {T M : Nat} {f : Int → Option Nat} {g : Int → Value} {A : List Rt} {W W' : World} (h : MT me T M f g A W) (he : ∀ k, TIn T M f g A k → W'.heap[k]? = W.heap[k]?) : MT me T M f g A W' := by
  refine ⟨h.blk.block (he T (.inl rfl)), h.map.block (he M (.inr (.inl rfl))), h.asc, h.ok, h.dom, fun x hx => ?_, fun x hx => ?_, h.apart, h.len⟩
  · obtain ⟨B, h1, h2⟩ := h.ln x hx
    exact ⟨B, h1, h2.block (he B (.inr (.inr ⟨x, hx, .inl h1⟩)))⟩
  · exact row_at (h.row x hx) fun k hk => he k (.inr (.inr ⟨x, hx, .inr hk⟩))
theorem MT.lt {me : Int} {T M : Nat} {f : Int → Option Nat} {g : Int → Value} {A : List Rt} {W : World} (h : MT me T M f g A W) {k : Nat} (hk : TIn T M f g A k) : k < W.heap.size := by
  rcases hk with rfl | rfl | ⟨x, hx, hk | hk⟩
  · exact h.blk.lt
  · exact h.map.lt
  · obtain ⟨B, h1, h2⟩ := h.ln x hx
    rw [h1] at hk
    cases hk
    exact h2.lt
  · exact ((h.row x hx).lt k hk).2
/-- What the map holds of a destination. -/
theorem MT.off {me : Int} {T M : Nat} {f : Int → Option Nat} {g : Int → Value} {A : List Rt} {W : World} (h : MT me T M f g A W) {d : Int} (hd : U32 d) (hl : lineOf A d = none) : f d = none := by
  cases e : f d with
  | none => rfl
  | some B =>
    obtain ⟨x, hx, hxd⟩ := h.dom d B hd e
    exact absurd hxd (lineOf_none.1 hl x hx)
theorem MT.line {me : Int} {T M : Nat} {f : Int → Option Nat} {g : Int → Value} {A : List Rt} {W : World} (h : MT me T M f g A W) {d : Int} {x : Rt} (hl : lineOf A d = some x) :
    x ∈ A ∧ x.dest = d ∧ ∃ B, f d = some B ∧ LnB B x (g d) W ∧ W.ownsRow 0 34 1 (g d) x.bef.length (x.bef.map encU) := by
  obtain ⟨hx, rfl⟩ := lineOf_some hl
  obtain ⟨B, h1, h2⟩ := h.ln x hx
  exact ⟨hx, rfl, B, h1, h2, h.row x hx⟩
/-- Two lines lie in two blocks. -/
theorem MT.inj {me : Int} {T M : Nat} {f : Int → Option Nat} {g : Int → Value} {A : List Rt} {W : World} (h : MT me T M f g A W) {x y : Rt} (hx : x ∈ A) (hy : y ∈ A) {B : Nat} (h1 : f x.dest = some B) (h2 : f y.dest = some B) : x.dest = y.dest := by
  obtain ⟨B1, p1, q1⟩ := h.ln x hx
  obtain ⟨B2, p2, q2⟩ := h.ln y hy
  rw [h1] at p1
  rw [h2] at p2
  cases p1
  cases p2
  unfold LnB at q1 q2
  rw [q1] at q2
  injection q2 with q2
  injection q2 with q2
  have := congrArg (fun a => a[0]?) q2
  simpa using this
theorem row_not {W : World} {base e size n : Nat} {v : Value} {cs : List Value} (h : W.ownsRow base e size v n cs) {B : Nat} {o : Obj} (hB : W.heap[B]? = some o) (ho : ∀ c, o ≠ .cells c e (0, 0)) : v.ownBlock ≠ some B := by
  rcases ownsRow_ne_a h hB ho with e | e
  · rw [e]; simp
  · exact e
theorem apart_symm {a b : Option Nat} (h : a = Option.none ∨ a ≠ b) : b = Option.none ∨ b ≠ a := by
  cases a <;> cases b
  · exact .inl rfl
  · exact .inr (by simp)
  · exact .inl rfl
  · rcases h with h | h
    · cases h
    · exact .inr h.symm
/-- One line's block has turned: the line there is another, with a row of neighbours that is no other line's. -/
theorem MT.turn {me : Int} {T M : Nat} {f : Int → Option Nat} {g : Int → Value} {A : List Rt} {W W' : World} (h : MT me T M f g A W) {d : Int} {x : Rt} (hl : lineOf A d = some x) {B : Nat} (hB : f d = some B)
    (F : Rt → Rt) (hFd : ∀ y, (F y).dest = y.dest) (hok : (F x).Ok) (v : Value) (hx' : LnB B (F x) v W') (hr' : W'.ownsRow 0 34 1 v (F x).bef.length ((F x).bef.map encU))
    (hv : v.ownBlock = none ∨ v.ownBlock = (g d).ownBlock ∨ ∀ k, v.ownBlock = some k → W.heap.size ≤ k)
    (hk : ∀ k, TIn T M f g A k → k ≠ B → (g d).ownBlock ≠ some k → W'.heap[k]? = W.heap[k]?) :
    MT me T M f (fun e => if e = d then v else g e) (modL A d F) W' ∧ ∀ k, TIn T M f (fun e => if e = d then v else g e) (modL A d F) k → TIn T M f g A k ∨ v.ownBlock = Option.some k := by
  obtain ⟨hxA, hxd, B', hB', hL, hR⟩ := h.line hl
  rw [hB] at hB'
  cases hB'
  have hTB : ∀ o, W.heap[B]? = some o → o = rtBox x (g d) := fun o ho => by rw [show W.heap[B]? = _ from hL] at ho; exact (Option.some.inj ho).symm
  have hTne : T ≠ B := fun e => by subst e; have := hTB _ h.blk; simp at this
  have hMne : M ≠ B := fun e => by
    subst e
    obtain ⟨D, ⟨es, cl, hm, _⟩, _⟩ := h.map
    have := hTB _ hm
    simp at this
  have hgT : (g d).ownBlock ≠ Option.some T := row_not hR h.blk (fun c e => by cases e)
  have hgM : (g d).ownBlock ≠ Option.some M := by
    obtain ⟨D, ⟨es, cl, hm, _⟩, _⟩ := h.map
    exact row_not hR hm (fun c e => by cases e)
  have hmem : ∀ y ∈ modL A d F, (y = F x ∧ y.dest = d) ∨ (y ∈ A ∧ y.dest ≠ d) := by
    intro y hy
    rcases modL_mem hy with ⟨z, hz, hzd, rfl⟩ | hy
    · have : z = x := h.asc.inj hz hxA (by rw [hzd, hxd])
      subst this
      exact .inl ⟨rfl, by rw [hFd, hzd]⟩
    · exact .inr hy
  have hother : ∀ y ∈ A, y.dest ≠ d → ∃ C, f y.dest = Option.some C ∧ LnB C y (g y.dest) W' ∧ C ≠ B := by
    intro y hy hyd
    obtain ⟨C, h1, h2⟩ := h.ln y hy
    have hC : C ≠ B := fun e => by
      subst e
      exact hyd (by rw [h.inj hy hxA h1 (by rw [hxd]; exact hB), hxd])
    have hgC : (g d).ownBlock ≠ Option.some C := row_not hR h2 (fun c e => by cases e)
    exact ⟨C, h1, h2.block (hk C (.inr (.inr ⟨y, hy, .inl h1⟩)) hC hgC), hC⟩
  have hrow : ∀ y ∈ A, y.dest ≠ d → W'.ownsRow 0 34 1 (g y.dest) y.bef.length (y.bef.map encU) := by
    intro y hy hyd
    refine row_at (h.row y hy) fun k hk' => hk k (.inr (.inr ⟨y, hy, .inr hk'⟩)) ?_ ?_
    · rintro rfl
      exact row_not (h.row y hy) hL (fun c e => by cases e) hk'
    · intro e
      rcases h.apart y hy x hxA (by rw [hxd]; exact hyd) with e' | e'
      · rw [hk'] at e'; cases e'
      · rw [hxd] at e'
        exact e' (by rw [hk', e])
  have hap : ∀ y ∈ A, y.dest ≠ d → v.ownBlock = Option.none ∨ v.ownBlock ≠ (g y.dest).ownBlock := by
    intro y hy hyd
    rcases hv with e | e | e
    · exact .inl e
    · rw [e]
      have := h.apart x hxA y hy (by rw [hxd]; exact fun e => hyd e.symm)
      rwa [hxd] at this
    · cases hvb : v.ownBlock with
      | none => exact .inl rfl
      | some k =>
        refine .inr fun e' => ?_
        have h1 := e k hvb
        have h2 := ((h.row y hy).lt k e'.symm).2
        omega
  have hgi : ∀ y : Rt, y.dest ≠ d → (if y.dest = d then v else g y.dest) = g y.dest := fun y hyd => if_neg hyd
  have hgd : ∀ y : Rt, y.dest = d → (if y.dest = d then v else g y.dest) = v := fun y hyd => if_pos hyd
  refine ⟨⟨h.blk.block (hk T (.inl rfl) hTne hgT), ?_, modL_asc h.asc d F hFd, ?_, ?_, ?_, ?_, ?_, by rw [modL_length]; exact h.len⟩, ?_⟩
  · rw [modL_length]
    exact h.map.block (hk M (.inr (.inl rfl)) hMne hgM)
  · intro y hy
    rcases hmem y hy with ⟨rfl, _⟩ | ⟨hyA, _⟩
    · exact hok
    · exact h.ok y hyA
  · intro e C he hf
    obtain ⟨y, hy, hye⟩ := h.dom e C he hf
    by_cases hyd : y.dest = d
    · exact ⟨F y, List.mem_map.2 ⟨y, hy, if_pos hyd⟩, by rw [hFd, hye]⟩
    · exact ⟨y, List.mem_map.2 ⟨y, hy, if_neg hyd⟩, hye⟩
  · intro y hy
    rcases hmem y hy with ⟨rfl, hyd⟩ | ⟨hyA, hyd⟩
    · refine ⟨B, by rw [hyd]; exact hB, ?_⟩
      rw [hgd _ hyd]
      exact hx'
    · obtain ⟨C, h1, h2, _⟩ := hother y hyA hyd
      refine ⟨C, h1, ?_⟩
      rw [hgi y hyd]
      exact h2
  · intro y hy
    rcases hmem y hy with ⟨rfl, hyd⟩ | ⟨hyA, hyd⟩
    · rw [hgd _ hyd]
      exact hr'
    · rw [hgi y hyd]
      exact hrow y hyA hyd
  · intro y hy z hz hyz
    rcases hmem y hy with ⟨rfl, hyd⟩ | ⟨hyA, hyd⟩
    · rcases hmem z hz with ⟨rfl, hzd⟩ | ⟨hzA, hzd⟩
      · exact absurd rfl hyz
      · rw [hgd _ hyd, hgi z hzd]
        exact hap z hzA hzd
    · rcases hmem z hz with ⟨rfl, hzd⟩ | ⟨hzA, hzd⟩
      · rw [hgd _ hzd, hgi y hyd]
        exact apart_symm (hap y hyA hyd)
      · rw [hgi y hyd, hgi z hzd]
        exact h.apart y hyA z hzA hyz
  · intro k hk'
    rcases hk' with rfl | rfl | ⟨y, hy, hk' | hk'⟩
    · exact .inl (.inl rfl)
    · exact .inl (.inr (.inl rfl))
    · rcases hmem y hy with ⟨rfl, hyd⟩ | ⟨hyA, hyd⟩
      · rw [hyd] at hk'
        exact .inl (.inr (.inr ⟨x, hxA, .inl (by rw [hxd]; exact hk')⟩))
      · exact .inl (.inr (.inr ⟨y, hyA, .inl hk'⟩))
    · rcases hmem y hy with ⟨rfl, hyd⟩ | ⟨hyA, hyd⟩
      · dsimp only at hk'
        rw [if_pos hyd] at hk'
        exact .inr hk'
      · dsimp only at hk'
        rw [if_neg hyd] at hk'
        exact .inl (.inr (.inr ⟨y, hyA, .inr hk'⟩))

/-- A table whose blocks lie in S. -/
def Tab (me : Int) (T : Nat) (S : Nat → Prop) (A : List Rt) (W : World) : Prop :=
  ∃ M f g, MT me T M f g A W ∧ ∀ k, TIn T M f g A k → S k
/-- S, and what has been laid since. -/
def ext (S : Nat → Prop) (a b : Nat) : Nat → Prop := fun k => S k ∨ (a ≤ k ∧ k < b)
theorem Tab.mono {me : Int} {T : Nat} {S S' : Nat → Prop} {A : List Rt} {W : World} (h : Tab me T S A W) (hs : ∀ k, S k → S' k) : Tab me T S' A W := by
  obtain ⟨M, f, g, h1, h2⟩ := h
  exact ⟨M, f, g, h1, fun k hk => hs k (h2 k hk)⟩
theorem Tab.kept {me : Int} {T : Nat} {S S' : Nat → Prop} {A : List Rt} {W W' : World} (h : Tab me T S A W) (hf : Fx S' W W') (hd : ∀ k, k < W.heap.size → S k → ¬ S' k) : Tab me T S A W' := by
  obtain ⟨M, f, g, h1, h2⟩ := h
  exact ⟨M, f, g, h1.kept (fun k hk => hf.block k (h1.lt hk) (hd k (h1.lt hk) (h2 k hk))), h2⟩
theorem Tab.later {me : Int} {T : Nat} {S : Nat → Prop} {A : List Rt} {W W' : World} (h : Tab me T S A W) (hb : Below W.heap.size W W') : Tab me T S A W' := by
  obtain ⟨M, f, g, h1, h2⟩ := h
  exact ⟨M, f, g, h1.kept (fun k hk => hb.block k (h1.lt hk)), h2⟩
end Go.Proofs.YtakaadcpaeiccabGreat
