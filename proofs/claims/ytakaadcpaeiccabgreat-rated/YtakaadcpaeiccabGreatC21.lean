import Derived.Test.YtakaadcpaeiccabGreatC18
import Derived.Test.YtakaadcpaeiccabGreatC15
import Derived.Test.YtakaadcpaeiccabGreatC20
import Derived.Test.YtakaadcpaeiccabGreatC17
import Derived.Test.YtakaadcpaeiccabGreatC16
import Derived.Test.YtakaadcpaeiccabGreatC04
namespace Go.Proofs.YtakaadcpaeiccabGreat
open Go.RowKit Go.Maps

/-! The searches, in memory. -/
theorem ts_zero (w : World) : (zeroValue 172).run Tryz.prog w = .ok (.pointer none) w := by kernel_rfl
theorem MapP.obj {W : World} {M : Nat} {f : Int → Option Nat} {s : Nat} (h : MapP W M f s) : ∃ es cl, W.heap[M]? = some (.map es cl) := by
  obtain ⟨D, ⟨es, cl, hm, _⟩, _⟩ := h
  exact ⟨es, cl, hm⟩
theorem MapP.puts {W : World} {M : Nat} {f : Int → Option Nat} {s : Nat} (h : MapP W M f s) (hs : s < maxLen) {k : Int} (hk : U32 k) (B : Nat) :
    ∃ W', (Instr.mapUpdate 119 (.map (some M)) (.int .u32 k) (.pointer (some ⟨B, 0, none⟩))).run Tryz.prog W = .ok () W' ∧ MapP W' M (updP f k (some B)) (if (f k).isSome then s else s + 1) ∧ W.grownBy W' (some M) := by
  obtain ⟨D, h1, h2, h3⟩ := h
  obtain ⟨W', hr, ho, ht⟩ := h1.store tu_law Tryz.underlying119 hs hk.key (ptrR_of (some B))
  have hm := h1.isMap
  have htd := h1.tidy tu_law
  have hkl : WideAt.IsKeyLit (.int .u32 k) := by trivial
  have hsz : Maps.size (D.put (.int .u32 k) (.lit (.int .i64 (litOf (some B))))) = if (f k).isSome then s else s + 1 := by
    rw [size_put htd, (h3 k hk).1, h2]
  refine ⟨W', hr, ⟨_, ?_, hsz, fun x hx => ?_⟩, ht.grown⟩
  · have := ownsMap_tight ho
    rw [hsz] at this
    exact this
  · by_cases e : x = k
    · subst e
      refine ⟨by rw [has_put_same hm hkl]; simp [updP], ?_⟩
      rw [atKey_put_same hm hkl]
      simp [updP]
    · have hne : (Lit.int .u32 x) ≠ .int .u32 k := fun h => e (by cases h; rfl)
      refine ⟨by rw [has_put_other hne]; simp [updP, e, (h3 x hx).1], ?_⟩
      rw [atKey_put_other hne, (h3 x hx).2]
      simp [updP, e]
theorem MapP.looks {W : World} {M : Nat} {f : Int → Option Nat} {s : Nat} (h : MapP W M f s) {k : Int} (hk : U32 k) :
    (Instr.lookup 119 (.map (some M)) (.int .u32 k) false).run Tryz.prog W = .ok (ptrOf (f k)) W := by
  obtain ⟨D, h1, h2, h3⟩ := h
  obtain ⟨v, ps, hr, hv⟩ := h1.lookup tu_law Tryz.underlying119 (ts_zero W) (ptrR_of none) hk.key
  have h4 := (h3 k hk).2
  simp only [litOf] at hv h4
  rw [h4] at hv
  rw [hr, ptrR_inv (o := f k) hv]
theorem MapP.looks_ok {W : World} {M : Nat} {f : Int → Option Nat} {s : Nat} (h : MapP W M f s) {k : Int} (hk : U32 k) :
    (Instr.lookup 119 (.map (some M)) (.int .u32 k) true).run Tryz.prog W = .ok (.tuple #[ptrOf (f k), .bool (f k).isSome]) W := by
  obtain ⟨D, h1, h2, h3⟩ := h
  obtain ⟨v, ps, hr, hv⟩ := h1.look_ok tu_law Tryz.underlying119 (ts_zero W) (ptrR_of none) hk.key
  have h4 := (h3 k hk).2
  simp only [litOf] at hv h4
  rw [h4] at hv
  rw [hr, ptrR_inv (o := f k) hv, (h3 k hk).1]
theorem MapP.dels {W : World} {M : Nat} {f : Int → Option Nat} {s : Nat} (h : MapP W M f s) {k : Int} (hk : U32 k) (ty : TypeId) (hf : (f k).isSome = true) :
    ∃ W', (Builtin.delete_ #[119, 34] ty #[.map (some M), .int .u32 k]).run Tryz.prog W = .ok (.tuple #[]) W' ∧ MapP W' M (updP f k none) (s - 1) ∧ W.grownBy W' (some M) := by
  obtain ⟨D, h1, h2, h3⟩ := h
  obtain ⟨W', hr, ho, ht⟩ := h1.drop tu_law Tryz.underlying119 hk.key ty
  have htd := h1.tidy tu_law
  have hsz : Maps.size (D.del (.int .u32 k)) = s - 1 := by
    have := size_del (k := .int .u32 k) htd
    rw [(h3 k hk).1, hf, h2] at this
    simp at this
    omega
  refine ⟨W', hr, ⟨_, ?_, hsz, fun x hx => ?_⟩, ht.grown⟩
  · have := ownsMap_tight ho
    rw [hsz] at this
    exact this
  · by_cases e : x = k
    · subst e
      refine ⟨by rw [has_del_same]; simp [updP], ?_⟩
      rw [atKey_del_same]
      simp [updP, litOf]
    · have hne : (Lit.int .u32 x) ≠ .int .u32 k := fun h => e (by cases h; rfl)
      refine ⟨by rw [has_del_other hne]; simp [updP, e, (h3 x hx).1], ?_⟩
      rw [atKey_del_other hne, (h3 x hx).2]
      simp [updP, e]

/-- What is to be done when a search's time has come: a method value. -/
def srFn (out : Bool) (B : Nat) : Value := .func (.func (if out then 124 else 83)) #[.pointer (some ⟨B, 0, none⟩)] #[]
@[reducible] def srBox (q : Sr) (v fn : Value) : Obj := .cells #[.int .u32 q.dest, v, .int .i64 q.ttl, .int .i64 q.ret, .int .i64 q.id, fn] 177
def SrB (B : Nat) (q : Sr) (v fn : Value) (W : World) : Prop := W.heap[B]? = some (srBox q v fn)
theorem SrB.cell {B : Nat} {q : Sr} {v fn : Value} {W : World} (h : SrB B q v fn W) :
    W.cell? ⟨B, 0, none⟩ = some (.int .u32 q.dest) ∧ W.cell? ⟨B, 1, none⟩ = some v ∧ W.cell? ⟨B, 2, none⟩ = some (.int .i64 q.ttl) ∧ W.cell? ⟨B, 3, none⟩ = some (.int .i64 q.ret) ∧ W.cell? ⟨B, 4, none⟩ = some (.int .i64 q.id) ∧ W.cell? ⟨B, 5, none⟩ = some fn :=
  ⟨cell_of_row W B 0 _ _ _ h, cell_of_row W B 1 _ _ _ h, cell_of_row W B 2 _ _ _ h, cell_of_row W B 3 _ _ _ h, cell_of_row W B 4 _ _ _ h, cell_of_row W B 5 _ _ _ h⟩
theorem SrB.free {B : Nat} {q : Sr} {v fn : Value} {W : World} (h : SrB B q v fn W) (i : Nat) : W.frozen? ⟨B, i, none⟩ = false := by
  unfold World.frozen?
  rw [show W.heap[(⟨B, i, none⟩ : Addr).block]? = some (srBox q v fn) from h]
  try rfl
theorem SrB.lt {B : Nat} {q : Sr} {v fn : Value} {W : World} (h : SrB B q v fn W) : B < W.heap.size := (Array.getElem?_eq_some_iff.1 h).1
theorem SrB.block {B : Nat} {q : Sr} {v fn : Value} {W W' : World} (h : SrB B q v fn W) (he : W'.heap[B]? = W.heap[B]?) : SrB B q v fn W' := he.trans h
/-- A search in memory: what is to be done is laid as soon as a timer was set. -/
def SrL (B : Nat) (q : Sr) (v : Value) (W : World) : Prop := ∃ fn, SrB B q v fn W ∧ (q.id ≠ 0 → fn = srFn q.out B)
theorem SrL.cell {B : Nat} {q : Sr} {v : Value} {W : World} (h : SrL B q v W) :
    W.cell? ⟨B, 0, none⟩ = some (.int .u32 q.dest) ∧ W.cell? ⟨B, 1, none⟩ = some v ∧ W.cell? ⟨B, 2, none⟩ = some (.int .i64 q.ttl) ∧ W.cell? ⟨B, 3, none⟩ = some (.int .i64 q.ret) ∧ W.cell? ⟨B, 4, none⟩ = some (.int .i64 q.id) := by
  obtain ⟨fn, h1, _⟩ := h
  obtain ⟨c0, c1, c2, c3, c4, _⟩ := h1.cell
  exact ⟨c0, c1, c2, c3, c4⟩
theorem SrL.lt {B : Nat} {q : Sr} {v : Value} {W : World} (h : SrL B q v W) : B < W.heap.size := by
  obtain ⟨fn, h1, _⟩ := h
  exact h1.lt
theorem SrL.block {B : Nat} {q : Sr} {v : Value} {W W' : World} (h : SrL B q v W) (he : W'.heap[B]? = W.heap[B]?) : SrL B q v W' := by
  obtain ⟨fn, h1, h2⟩ := h
  exact ⟨fn, h1.block he, h2⟩
theorem SrL.obj {B : Nat} {q : Sr} {v : Value} {W : World} (h : SrL B q v W) : ∃ c, W.heap[B]? = some (.cells c 177 (0, 0)) := by
  obtain ⟨fn, h1, _⟩ := h
  exact ⟨_, h1⟩
structure Sr.Ok (q : Sr) : Prop where
  dest : U32 q.dest
  ttl : 1 ≤ q.ttl ∧ q.ttl ≤ 8
  ret : q.ret ≤ 2
  txt : q.txt.length ≤ 4
  siz : ∀ t ∈ q.txt, t.size ≤ 16
  id : 0 ≤ q.id ∧ q.id ≤ 4611686018427387904
/-- The blocks of the searches. -/
def SrIn (Ms : Nat) (h : Int → Option Nat) (u : Int → Value) (Q : List Sr) (k : Nat) : Prop :=
  k = Ms ∨ ∃ q ∈ Q, h q.dest = some k ∨ (u q.dest).ownBlock = some k
structure SrM (Ms : Nat) (h : Int → Option Nat) (u : Int → Value) (Q : List Sr) (W : World) : Prop where
  map : MapP W Ms h Q.length
  nod : Q.Pairwise fun a b => a.dest ≠ b.dest
  ok : ∀ q ∈ Q, q.Ok
  dom : ∀ d B, U32 d → h d = some B → ∃ q ∈ Q, q.dest = d
  ln : ∀ q ∈ Q, ∃ B, h q.dest = some B ∧ SrL B q (u q.dest) W
  row : ∀ q ∈ Q, W.ownsRow 0 9 1 (u q.dest) q.txt.length (q.txt.map Value.string)
  apart : ∀ a ∈ Q, ∀ b ∈ Q, a.dest ≠ b.dest → (u a.dest).ownBlock = none ∨ (u a.dest).ownBlock ≠ (u b.dest).ownBlock
  len : Q.length ≤ 5000
theorem SrM.kept {Ms : Nat} {h : Int → Option Nat} {u : Int → Value} {Q : List Sr} {W W' : World} (s : SrM Ms h u Q W) (he : ∀ k, SrIn Ms h u Q k → W'.heap[k]? = W.heap[k]?) : SrM Ms h u Q W' := by
  refine ⟨s.map.block (he _ (.inl rfl)), s.nod, s.ok, s.dom, fun q hq => ?_, fun q hq => ?_, s.apart, s.len⟩
  · obtain ⟨B, h1, h2⟩ := s.ln q hq
    exact ⟨B, h1, h2.block (he B (.inr ⟨q, hq, .inl h1⟩))⟩
  · exact row_at (s.row q hq) fun k hk => he k (.inr ⟨q, hq, .inr hk⟩)
theorem SrM.lt {Ms : Nat} {h : Int → Option Nat} {u : Int → Value} {Q : List Sr} {W : World} (s : SrM Ms h u Q W) {k : Nat} (hk : SrIn Ms h u Q k) : k < W.heap.size := by
  rcases hk with rfl | ⟨q, hq, hk | hk⟩
  · exact s.map.lt
  · obtain ⟨B, h1, h2⟩ := s.ln q hq
    rw [h1] at hk
    cases hk
    exact h2.lt
  · exact ((s.row q hq).lt k hk).2
/-- A block of the searches is the map, or a search, or a row of texts. -/
theorem SrM.kind {Ms : Nat} {h : Int → Option Nat} {u : Int → Value} {Q : List Sr} {W : World} (s : SrM Ms h u Q W) {k : Nat} (hk : SrIn Ms h u Q k) : ∃ o, W.heap[k]? = some o ∧ ((k = Ms ∧ ∃ es cl, o = .map es cl) ∨ (∃ c, o = .cells c 177 (0, 0)) ∨ ∃ c, o = .cells c 9 (0, 0)) := by
  rcases hk with rfl | ⟨q, hq, hk | hk⟩
  · obtain ⟨es, cl, hm⟩ := s.map.obj
    exact ⟨_, hm, .inl ⟨rfl, _, _, rfl⟩⟩
  · obtain ⟨B, h1, h2⟩ := s.ln q hq
    rw [h1] at hk
    cases hk
    obtain ⟨c, hc⟩ := h2.obj
    exact ⟨_, hc, .inr (.inl ⟨_, rfl⟩)⟩
  · obtain ⟨c, hc⟩ := row_obj (s.row q hq) hk
    exact ⟨_, hc, .inr (.inr ⟨_, rfl⟩)⟩
theorem srOf_some {Q : List Sr} {d : Int} {q : Sr} (h : St.srOf Q d = some q) : q ∈ Q ∧ q.dest = d := by
  unfold St.srOf at h
  exact ⟨List.mem_of_find?_eq_some h, by simpa using List.find?_some h⟩
theorem srOf_none {Q : List Sr} {d : Int} : St.srOf Q d = none ↔ ∀ q ∈ Q, q.dest ≠ d := by
  unfold St.srOf
  simp
theorem SrM.off {Ms : Nat} {h : Int → Option Nat} {u : Int → Value} {Q : List Sr} {W : World} (s : SrM Ms h u Q W) {d : Int} (hd : U32 d) (hn : St.srOf Q d = none) : h d = none := by
  cases e : h d with
  | none => rfl
  | some B =>
    obtain ⟨q, hq, hqd⟩ := s.dom d B hd e
    exact absurd hqd (srOf_none.1 hn q hq)
theorem SrM.at {Ms : Nat} {h : Int → Option Nat} {u : Int → Value} {Q : List Sr} {W : World} (s : SrM Ms h u Q W) {d : Int} {q : Sr} (hn : St.srOf Q d = some q) : q ∈ Q ∧ q.dest = d ∧ ∃ B, h d = some B ∧ SrL B q (u d) W ∧ W.ownsRow 0 9 1 (u d) q.txt.length (q.txt.map Value.string) := by
  obtain ⟨hq, rfl⟩ := srOf_some hn
  obtain ⟨B, h1, h2⟩ := s.ln q hq
  exact ⟨hq, rfl, B, h1, h2, s.row q hq⟩
end Go.Proofs.YtakaadcpaeiccabGreat

namespace Go.Proofs.YtakaadcpaeiccabGreat
open Go.RowKit

theorem num_drop (xs : List Int) (k : Nat) {a b c d : Int} {ys : List Int} (h : xs.drop (4 * k) = a :: b :: c :: d :: ys) : num xs k = n4 a b c d := by
  have g : ∀ i x, (a :: b :: c :: d :: ys)[i]? = some x → xs.getD (4 * k + i) 0 = x := by
    intro i x hx
    rw [← h, List.getElem?_drop] at hx
    simp [List.getD, hx]
  unfold num
  rw [show 4 * k = 4 * k + 0 from rfl, g 0 a rfl, g 1 b rfl, g 2 c rfl, g 3 d rfl]

theorem plOf_succ (k : Nat) (xs : List Int) : plOf (k + 1) xs = plOf k xs ++ [(num xs (2 * k), num xs (2 * k + 1))] := by
  simp [plOf, List.range_succ]
theorem LC_append (a b : List (Int × Int)) : LC (a ++ b) = LC a ++ LC b := by simp [LC]
theorem plOf_length (k : Nat) (xs : List Int) : (plOf k xs).length = k := by simp [plOf]

theorem set_two (A : List Value) (u v x y : Value) (T : List Value) : ((A ++ u :: v :: T).set A.length x).set (A.length + 1) y = A ++ [x, y] ++ T := by
  simp [List.set_append_right]

theorem made_u32 (m : Nat) : ∀ v ∈ (madeCells #[Value.int .u32 0, Value.int .u32 0] m).toList, ∃ z, v = .int .u32 z := by
  intro v hv
  simp only [madeCells, Array.toList_map, List.mem_map] at hv
  obtain ⟨i, _, rfl⟩ := hv
  rcases Nat.mod_two_eq_zero_or_one i with h | h <;> simp [h]

def LostP (R n : Nat) (xs : List Int) (W : World) (e : Ending) (w' : World) : Prop :=
  W.grownBy w' (some R) ∧ ((8 * n ≤ xs.length ∧ (∃ g, W.heap.size ≤ g ∧ e = .returned (.slice (some ⟨g, 0, none⟩) n n) ∧ HoldsA w' (some ⟨g, 0, none⟩) (plOf n xs)) ∧ Rd R (xs.drop (8 * n)) w') ∨ (xs.length < 8 * n ∧ e = .panicked broken))

theorem HoldsA.ofOwn {W : World} {base g n cap : Nat} {L : List (Int × Int)} (h : W.ownsRow base 237 2 (.slice (some ⟨g, 0, none⟩) n cap) n (LC L)) (hb : ∀ x ∈ L, 0 ≤ x.1 ∧ x.1 < 4294967296 ∧ 0 ≤ x.2 ∧ x.2 < 4294967296) : HoldsA W (some ⟨g, 0, none⟩) L := by
  have hl := h.1
  rw [LC_length] at hl
  have hlt : g < W.heap.size := by
    rcases h.2 with ⟨hh, _⟩ | ⟨g', _, _, hh, _, hg, _⟩
    · simp at hh
    · simp only [Value.slice.injEq, Option.some.injEq, Addr.mk.injEq, and_true] at hh
      obtain ⟨rfl, _⟩ := hh
      exact (Array.getElem?_eq_some_iff.1 hg).1
  intro j hj
  have hx := hb _ (List.getElem_mem hj)
  have hg := LC_get L j
  rw [List.getElem?_eq_getElem hj] at hg
  refine ⟨g, 0, L[j].1, L[j].2, rfl, hlt, List.getElem?_eq_getElem hj, hx.1, hx.2.1, hx.2.2.1, hx.2.2.2, ?_, ?_⟩
  · rw [Nat.zero_add, h.cellAt (j * 2) (by omega), hg.1]; rfl
  · rw [Nat.zero_add, h.cellAt (j * 2 + 1) (by omega), hg.2]; rfl

theorem num_b {xs : List Int} (h : ∀ x ∈ xs, 0 ≤ x ∧ x ≤ 255) (i : Nat) : 0 ≤ num xs i ∧ num xs i < 4294967296 := by
  have g : ∀ j, 0 ≤ xs.getD j 0 ∧ xs.getD j 0 ≤ 255 := by
    intro j
    rcases Nat.lt_or_ge j xs.length with hj | hj
    · have := h _ (List.getElem_mem hj)
      simpa [List.getD, List.getElem?_eq_getElem hj] using this
    · simp [List.getD, List.getElem?_eq_none hj]
  exact n4_b (g _) (g _) (g _) (g _)
theorem plOf_b {xs : List Int} (h : ∀ x ∈ xs, 0 ≤ x ∧ x ≤ 255) (n : Nat) : ∀ x ∈ plOf n xs, 0 ≤ x.1 ∧ x.1 < 4294967296 ∧ 0 ≤ x.2 ∧ x.2 < 4294967296 := by
  intro x hx
  simp only [plOf, List.mem_map] at hx
  obtain ⟨i, _, rfl⟩ := hx
  have a := num_b h (2 * i)
  have b := num_b h (2 * i + 1)
  exact ⟨a.1, a.2, b.1, b.2⟩

set_option maxRecDepth 100000 in
set_option maxHeartbeats 4000000 in
theorem lost_any (R n : Nat) (hn : n ≤ 255) (xs : List Int) (W : World) (h : Rd R xs W) :
    Calls Tryz.prog 88 #[.pointer (some ⟨R, 0, none⟩), .int .i64 n] W fun e w' => LostP R n xs W e w' := by
  obtain ⟨i0, hi, hz0, hz1, hz2⟩ := info_parts info_lost
  have hR := h.lt
  have hby := h.bytes
  go_enter Tryz.func88, Tryz.ntmps88
  go_wp2_with (at_make; refine wpList_make_full _ rfl _ _ 71 rfl W.heap.size 237 i0 (.agg #[.int .u32 0, .int .u32 0]) 2 Tryz.underlying71 hi hz0 hz1 .i64 .i64 n n n rfl rfl rfl rfl ?c1 ?c2 ?c3 ?_)
  case c1 => rw [hz2]; omega
  case c2 => unfold maxLen; omega
  case c3 => exact Nat.le_refl _
  intro w1 hown hg1
  have hb1 : Below W.heap.size W w1 := ⟨hg1.os, hg1.tape, hg1.output, hg1.size, fun k hk => hg1.block k hk (by simp)⟩
  have hr1 := h.kept hb1
  have hG1 : W.grownBy w1 (some R) := ⟨hg1.os, hg1.tape, hg1.output, hg1.size, fun k hk _ => hg1.block k hk (by simp)⟩
  have hT : ∀ v ∈ (madeCells #[Value.int .u32 0, Value.int .u32 0] (n * 2)).toList, ∃ z, v = .int .u32 z := made_u32 _
  generalize (madeCells #[Value.int .u32 0, Value.int .u32 0] (n * 2)).toList = T0 at hown hT
  generalize hG : W.heap.size = G at hown ⊢
  clear hg1 hb1 h hi hz0 hz1 hz2
  go_wp2_with fail
  go_loopw [11] (fun i wr => ∃ (k : Nat) (T : List Value), k ≤ n ∧ i = .int .i64 k ∧ 8 * k ≤ xs.length ∧ Rd R (xs.drop (8 * k)) wr ∧ wr.ownsRow G 237 2 (.slice (some ⟨G, 0, none⟩) n n) n (LC (plOf k xs) ++ T) ∧ W.grownBy wr (some R) ∧ (∀ v ∈ T, ∃ z, v = .int .u32 z)) (fun i _ => n - (intOf i).toNat)
  case atStart => exact ⟨0, T0, Nat.zero_le _, rfl, Nat.zero_le _, hr1, hown, hG1, hT⟩
  case round =>
    clear hr1 hown hG1 hT
    obtain ⟨k, T, hk, rfl, h8, hr, ho, hg, hT⟩ := hrel
    by_cases hlt : k < n
    · go_wp2_with fail
      refine (number_any R _ _ hr).mono ?_
      rintro e w2 (⟨a, b, c, d, ys, hd1, rfl, hr2, hg2, _⟩ | ⟨hs, rfl, rfl⟩)
      case inr =>
        rw [List.length_drop] at hs
        exact ⟨rfl, hg, .inr ⟨by omega, rfl⟩⟩
      have ho2 := ho.kept hg2 (by right; simp [Value.ownBlock]; omega)
      have hG2 := grown_trans hg hg2
      clear hr hg2 ho hg
      go_wp2_with fail
      refine (number_any R _ _ hr2).mono ?_
      rintro e w3 (⟨a', b', c', d', zs, rfl, rfl, hr3, hg3, _⟩ | ⟨hs, rfl, rfl⟩)
      case inr =>
        have := congrArg List.length hd1
        simp only [List.length_drop, List.length_cons] at this
        exact ⟨rfl, hG2, .inr ⟨by omega, rfl⟩⟩
      have ho3 := ho2.kept hg3 (by right; simp [Value.ownBlock]; omega)
      have hG3 := grown_trans hG2 hg3
      clear hr2 hg3 ho2 hG2
      have hl3 := ho3.1
      rw [List.length_append, LC_length, plOf_length] at hl3
      obtain ⟨u, v, T', rfl⟩ : ∃ u v T', T = u :: v :: T' := by
        match T, hl3 with
        | [], h => simp at h; omega
        | [_], h => simp at h; omega
        | u :: v :: T', _ => exact ⟨u, v, T', rfl⟩
      obtain ⟨z0, rfl⟩ := hT u (by simp)
      obtain ⟨z1, rfl⟩ := hT v (by simp)
      have hT' : ∀ v ∈ T', ∃ z, v = .int .u32 z := fun v hv => hT v (by simp [hv])
      have c0 : w3.cell? ⟨G, k * 2, none⟩ = some (.int .u32 z0) := by
        rw [ho3.cellAt (k * 2) (by omega), List.getElem?_append_right (by rw [LC_length, plOf_length]; omega), LC_length, plOf_length]
        simp
      have c1 : w3.cell? ⟨G, k * 2 + 1, none⟩ = some (.int .u32 z1) := by
        rw [ho3.cellAt (k * 2 + 1) (by omega), List.getElem?_append_right (by rw [LC_length, plOf_length]; omega), LC_length, plOf_length]
        simp
      have f0 := ho3.frozenAt (k * 2)
      have f1 := ho3.frozenAt (k * 2 + 1)
      have hkn : (k : Int) < (n : Int) := by omega
      clear hT
      have n0 : num xs (2 * k) = n4 a b c d := num_drop xs (2 * k) (by rw [show 4 * (2 * k) = 8 * k by omega]; exact hd1)
      have n1 : num xs (2 * k + 1) = n4 a' b' c' d' := num_drop xs (2 * k + 1) (ys := zs) (by
        rw [show 4 * (2 * k + 1) = 8 * k + 4 by omega, ← List.drop_drop, hd1]; rfl)
      have hdr : xs.drop (8 * (k + 1)) = zs := by
        rw [show 8 * (k + 1) = 8 * k + 8 by omega, ← List.drop_drop, hd1]; rfl
      have hle : 8 * (k + 1) ≤ xs.length := by
        have := congrArg List.length hd1
        simp only [List.length_drop, List.length_cons] at this
        omega
      have hlc : LC (plOf (k + 1) xs) = LC (plOf k xs) ++ [.int .u32 (n4 a b c d), .int .u32 (n4 a' b' c' d')] := by
        rw [plOf_succ, LC_append, n0, n1]; rfl
      have hst := (ho3.stored (k * 2) (.int .u32 (n4 a b c d))).1.stored (k * 2 + 1) (.int .u32 (n4 a' b' c' d'))
      have hset := set_two (LC (plOf k xs)) (.int .u32 z0) (.int .u32 z1) (.int .u32 (n4 a b c d)) (.int .u32 (n4 a' b' c' d')) T'
      rw [LC_length, plOf_length] at hset
      rw [hset] at hst
      have hst' := hst.1
      rw [← hlc] at hst'
      have hrA := hr3.setCell (B := G) (by omega) (i := k * 2) (.int .u32 z0) (.int .u32 (n4 a b c d)) (by simp) c0
      have c1' : (w3.setCell ⟨G, k * 2, none⟩ (.int .u32 (n4 a b c d))).cell? ⟨G, k * 2 + 1, none⟩ = some (.int .u32 z1) := by
        rw [World.cell?_setCell_other _ _ _ _ (by simp)]; exact c1
      have hrB := hrA.setCell (B := G) (by omega) (i := k * 2 + 1) (.int .u32 z1) (.int .u32 (n4 a' b' c' d')) (by simp) c1'
      have hgB := grown_new (grown_new hG3 (a := ⟨G, k * 2, none⟩) (by simp; omega) (.int .u32 (n4 a b c d))) (a := ⟨G, k * 2 + 1, none⟩) (by simp; omega) (.int .u32 (n4 a' b' c' d'))
      rw [← hdr] at hrB
      clear n0 n1 hdr hlc hst hset hd1 hl3 c1' hrA hr3 hG3 ho3
      go_wp2
      go_roundw
      case rel => exact ⟨k + 1, T', by omega, by go_num, hle, hrB, hst', hgB, hT'⟩
      case measure => simp [intOf]; omega
    · obtain rfl : k = n := by omega
      clear hk hlt
      have hl3 := ho.1
      rw [List.length_append, LC_length, plOf_length] at hl3
      obtain rfl : T = [] := List.eq_nil_of_length_eq_zero (by omega)
      rw [List.append_nil] at ho
      clear hl3 hT
      go_wp2
      go_ret
      exact ⟨hg, .inl ⟨h8, ⟨G, Nat.le_of_eq hG, rfl, HoldsA.ofOwn ho (plOf_b hby k)⟩, hr⟩⟩
end Go.Proofs.YtakaadcpaeiccabGreat

namespace Go.Proofs.YtakaadcpaeiccabGreat
open Go.RowKit

theorem HoldsA.far {W : World} {g : Nat} {L : List (Int × Int)} (h : HoldsA W (some ⟨g, 0, none⟩) L) {a : Addr} (ha : a.block ≠ g) (v : Value) : HoldsA (W.setCell a v) (some ⟨g, 0, none⟩) L := by
  intro j hj
  obtain ⟨lb, lo, d, s, h1, h2, h3, h4, h5, h6, h7, h8, h9⟩ := h j hj
  have e := h1
  simp only [Option.some.injEq, Addr.mk.injEq, and_true] at e
  obtain ⟨rfl, rfl⟩ := e
  exact ⟨g, 0, d, s, rfl, by simpa using h2, h3, h4, h5, h6, h7, (setCell_far W a _ v (fun e => ha e.symm)).trans h8, (setCell_far W a _ v (fun e => ha e.symm)).trans h9⟩
theorem HoldsA.store12 {W : World} {g C : Nat} {L : List (Int × Int)} (h : HoldsA W (some ⟨g, 0, none⟩) L) (hC : C ≠ g) (p : Pkt) : HoldsA (store12 W C p) (some ⟨g, 0, none⟩) L :=
  HoldsA.far (HoldsA.far (HoldsA.far (HoldsA.far (HoldsA.far (HoldsA.far (HoldsA.far (HoldsA.far (HoldsA.far (HoldsA.far (HoldsA.far (HoldsA.far h (a := ⟨C, 0, none⟩) hC _) (a := ⟨C, 1, none⟩) hC _) (a := ⟨C, 2, none⟩) hC _) (a := ⟨C, 3, none⟩) hC _) (a := ⟨C, 4, none⟩) hC _) (a := ⟨C, 5, none⟩) hC _) (a := ⟨C, 6, none⟩) hC _) (a := ⟨C, 7, none⟩) hC _) (a := ⟨C, 8, none⟩) hC _) (a := ⟨C, 9, none⟩) hC _) (a := ⟨C, 10, none⟩) hC _) (a := ⟨C, 11, none⟩) hC _
end Go.Proofs.YtakaadcpaeiccabGreat

namespace Go.Proofs.YtakaadcpaeiccabGreat
open Go.RowKit

set_option maxRecDepth 100000 in
set_option maxHeartbeats 1000000 in
/-- The deferred closure, behind a panic: nothing is read, and the error is told. -/
theorem catch_panicking (C E : Nat) (hCE : C ≠ E) (z : Pkt) (x : Int) (u : TypeId) (pv : Value) (older : List PanicEntry) (w : World) (hC : PB z C w) (hE : w.heap[E]? = some (.cells #[.int .i64 x] 47 (0, 0))) :
    CallsD Tryz.prog 55 #[.pointer (some ⟨C, 0, none⟩), .pointer (some ⟨E, 0, none⟩)] (.panicking ({ v := .iface u pv, recovered := false } :: older)) w fun e u' w' =>
      e = .returned (.tuple #[]) ∧ u' = .panicking ({ v := .iface u pv, recovered := true } :: older) ∧ w' = (store12 w C Pkt.zero).setCell ⟨E, 0, none⟩ (.int .i64 1) := by
  obtain ⟨k0, k1, k2, k3, k4, k5, k6, k7, k8, k9, k10, k11⟩ := hC.cell
  have kf := hC.free
  have e0 : w.cell? ⟨E, 0, none⟩ = some (.int .i64 x) := cell_of_row w E 0 _ _ _ hE
  have ef : w.frozen? ⟨E, 0, none⟩ = false := frozen_of_row w E 0 _ _ hE
  refine callsD_of_wpS Tryz.func55 rfl fun c₀ cs hu => ?_
  apply wpS_seq
  apply wpS_region
  simp [wpOpsS, go_sem, recoverD, hu, Tryz.ntmps55, Exit.thenS]
  refine wpS_cond (t := true) (by simp [Act.eval, Array.replicate]) ?_
  simp only [if_true]
  apply wpS_region
  simp [wpOpsS, go_sem, k0, k1, k2, k3, k4, k5, k6, k7, k8, k9, k10, k11, kf, e0, ef, bodyPostS, results, Tryz.results55]
  rfl

set_option maxRecDepth 100000 in
theorem catch_idle (a b : Addr) (w : World) :
    CallsD Tryz.prog 55 #[.pointer (some a), .pointer (some b)] .returning w fun e u' w' => e = .returned (.tuple #[]) ∧ u' = .returning ∧ w' = w := by
  refine callsD_of_wpS Tryz.func55 rfl fun c₀ cs hu => ?_
  apply wpS_seq
  apply wpS_region
  simp [wpOpsS, go_sem, recoverD, hu, Tryz.ntmps55, Exit.thenS]
  refine wpS_cond (t := false) (by simp [Act.eval, Array.replicate]) ?_
  simp only [Bool.false_eq_true, if_false]
  refine wpS_of_wp (wp_skip ?_)
  cases c₀
  simp_all [bodyPostS, results, Tryz.results55]
end Go.Proofs.YtakaadcpaeiccabGreat

namespace Go.Proofs.YtakaadcpaeiccabGreat
open Go.RowKit

/-- What Decode answers. -/
def DecodeP (xs : List Int) (W : World) (e : Ending) (w' : World) : Prop :=
  Below W.heap.size W w' ∧ ((isF xs = true ∧ ∃ v, e = .returned (.tuple #[v, .int .i64 0]) ∧ Reads xs v w' W.heap.size) ∨ (isF xs = false ∧ e = .returned (.tuple #[Pkt.zero.val, .int .i64 1])))

theorem HoldsA.farO {W : World} {ao : Option Addr} {L : List (Int × Int)} {N : Nat} (h : HoldsA W ao L) (hf : ∀ b, ao = some b → N ≤ b.block) {a : Addr} (ha : a.block < N) (v : Value) : HoldsA (W.setCell a v) ao L := by
  intro j hj
  obtain ⟨lb, lo, d, s, h1, h2, h3, h4, h5, h6, h7, h8, h9⟩ := h j hj
  have hb := hf _ h1
  have hne : lb ≠ a.block := by have : N ≤ lb := hb; omega
  exact ⟨lb, lo, d, s, h1, by simpa using h2, h3, h4, h5, h6, h7, (setCell_far W a _ v hne).trans h8, (setCell_far W a _ v hne).trans h9⟩
theorem storeO_holds {W : World} {ao : Option Addr} {C : Nat} {L : List (Int × Int)} {N : Nat} (h : HoldsA W ao L) (hf : ∀ b, ao = some b → N ≤ b.block) (hC : C < N) (p : Pkt) : HoldsA (store12 W C p) ao L :=
  HoldsA.farO (HoldsA.farO (HoldsA.farO (HoldsA.farO (HoldsA.farO (HoldsA.farO (HoldsA.farO (HoldsA.farO (HoldsA.farO (HoldsA.farO (HoldsA.farO (HoldsA.farO h hf (a := ⟨C, 0, none⟩) hC _) hf (a := ⟨C, 1, none⟩) hC _) hf (a := ⟨C, 2, none⟩) hC _) hf (a := ⟨C, 3, none⟩) hC _) hf (a := ⟨C, 4, none⟩) hC _) hf (a := ⟨C, 5, none⟩) hC _) hf (a := ⟨C, 6, none⟩) hC _) hf (a := ⟨C, 7, none⟩) hC _) hf (a := ⟨C, 8, none⟩) hC _) hf (a := ⟨C, 9, none⟩) hC _) hf (a := ⟨C, 10, none⟩) hC _) hf (a := ⟨C, 11, none⟩) hC _

theorem below_storeB {A B : World} {C N : Nat} (h : Below N A B) (hC : N ≤ C) (p : Pkt) : Below N A (store12 B C p) :=
  ((((((((((((((((((((((((h).setCell (p := ⟨C, 0, none⟩) hC _)).setCell (p := ⟨C, 1, none⟩) hC _)).setCell (p := ⟨C, 2, none⟩) hC _)).setCell (p := ⟨C, 3, none⟩) hC _)).setCell (p := ⟨C, 4, none⟩) hC _)).setCell (p := ⟨C, 5, none⟩) hC _)).setCell (p := ⟨C, 6, none⟩) hC _)).setCell (p := ⟨C, 7, none⟩) hC _)).setCell (p := ⟨C, 8, none⟩) hC _)).setCell (p := ⟨C, 9, none⟩) hC _)).setCell (p := ⟨C, 10, none⟩) hC _)).setCell (p := ⟨C, 11, none⟩) hC _)
theorem store_far (W : World) {C : Nat} (p : Pkt) {k : Nat} (hk : k ≠ C) : (store12 W C p).heap[k]? = W.heap[k]? := by
  have f := fun (w : World) (i : Nat) (v : Value) => Below.heap_setCell w ⟨C, i, none⟩ v k hk
  simp only [store12, f]

set_option maxRecDepth 100000 in
set_option maxHeartbeats 4000000 in
theorem Decode_of (hpk : ∀ (R : Nat) (xs : List Int) (W : World), Rd R xs W → Calls Tryz.prog 56 #[.pointer (some ⟨R, 0, none⟩)] W fun e w' => PacketP R xs W e w')
    (v : Value) (xs : List Int) (W : World) (hv : RestV W v xs) :
    Calls Tryz.prog 22 #[v] W fun e w' => DecodeP xs W e w' := by
  have hmf : ∀ (fn : Fn) (first cap : Array Value) (w : World), (Instr.makeFunc fn first cap).run Tryz.prog w = .ok (.func fn first cap) w := fun _ _ _ _ => rfl
  obtain ⟨a, n, c, rfl⟩ : ∃ a n c, v = .slice a n c := by
    rcases hv.2 with ⟨rfl, _⟩ | ⟨_, _, _, rfl, _⟩
    · exact ⟨_, _, _, rfl⟩
    · exact ⟨_, _, _, rfl⟩
  go_enter_defers Tryz.func22, Tryz.ntmps22
  go_wp2_with fail
  have hb3 : Below W.heap.size W (((W.alloc Pkt.zero.box).alloc (.cells #[.int .i64 0] 47)).alloc (.cells #[.slice a n c] 141)) :=
    (((Below.refl W.heap.size W).alloc (Nat.le_refl _) _).alloc (by simp) _).alloc (by simp; omega) _
  have hC : PB Pkt.zero W.heap.size (((W.alloc Pkt.zero.box).alloc (.cells #[.int .i64 0] 47)).alloc (.cells #[.slice a n c] 141)) := ((PB.new Pkt.zero W).alloc _).alloc _
  have hE : (((W.alloc Pkt.zero.box).alloc (.cells #[.int .i64 0] 47)).alloc (.cells #[.slice a n c] 141)).heap[W.heap.size + 1]? = some (.cells #[.int .i64 0] 47 (0, 0)) := by
    rw [Below.heap_alloc _ _ _ (by simp)]
    have := heap_alloc_new (W.alloc Pkt.zero.box) (.cells #[.int .i64 0] 47)
    rwa [World.size_alloc] at this
  have hRh : (((W.alloc Pkt.zero.box).alloc (.cells #[.int .i64 0] 47)).alloc (.cells #[.slice a n c] 141)).heap[W.heap.size + 1 + 1]? = some (.cells #[.slice a n c] 141 (0, 0)) := by
    have := heap_alloc_new ((W.alloc Pkt.zero.box).alloc (.cells #[.int .i64 0] 47)) (.cells #[.slice a n c] 141)
    rwa [World.size_alloc, World.size_alloc] at this
  have hrd : Rd (W.heap.size + 1 + 1) xs (((W.alloc Pkt.zero.box).alloc (.cells #[.int .i64 0] 47)).alloc (.cells #[.slice a n c] 141)) :=
    ⟨_, cell_of_row _ _ 0 _ _ _ hRh, frozen_of_row _ _ 0 _ _ hRh, hv.kept hb3⟩
  dsimp only [Pkt.box, Pkt.zero] at hb3 hC hE hrd
  generalize World.alloc _ _ = W3 at hb3 hC hE hrd ⊢
  clear hRh hv
  have hsz3 := hrd.lt
  refine (hpk _ xs _ hrd).mono ?_
  rintro e w1 ⟨hg, ⟨hF, pv, rfl, hRd⟩ | ⟨hF, rfl⟩⟩
  · obtain ⟨x0, x1, x2, x3, x4, r, ao, c', hxs, hpv, hlen, hA, hfr⟩ := hRd
    obtain ⟨q, hq⟩ : ∃ q : Pkt, q = { pkOf x0 x1 x2 x4 r with la := ao, lc := c' } := ⟨_, rfl⟩
    rw [← hq] at hpv
    subst hpv
    have hq' := (show Hid _ from hq)
    clear hq
    have hC1 := hC.grown hg (by omega)
    have hE1 := (hg.block (W.heap.size + 1) (Array.getElem?_eq_some_iff.1 hE).1 (by simp)).trans hE
    have hB1 : Below W.heap.size W w1 := hb3.trans ⟨hg.os, hg.tape, hg.output, hg.size, fun k hk => hg.block k (by omega) (by simp; omega)⟩
    have hF1 := hC1.storeAll q
    have hB2 : Below W.heap.size W ((store12 w1 W.heap.size q).setCell ⟨W.heap.size + 1, 0, none⟩ (.int .i64 0)) :=
      (below_storeB hB1 (Nat.le_refl _) q).setCell (p := ⟨W.heap.size + 1, 0, none⟩) (by simp) _
    have hF2 : PB q W.heap.size ((store12 w1 W.heap.size q).setCell ⟨W.heap.size + 1, 0, none⟩ (.int .i64 0)) := hF1.other (a := ⟨W.heap.size + 1, 0, none⟩) (by simp) _
    obtain ⟨k0, k1, k2, k3, k4, k5, k6, k7, k8, k9, k10, k11⟩ := hC1.cell
    dsimp only at k0 k1 k2 k3 k4 k5 k6 k7 k8 k9 k10 k11
    have kf := hC1.free
    have e0 : w1.cell? ⟨W.heap.size + 1, 0, none⟩ = some (.int .i64 0) := cell_of_row w1 _ 0 _ _ _ hE1
    have ef : w1.frozen? ⟨W.heap.size + 1, 0, none⟩ = false := frozen_of_row w1 _ 0 _ _ hE1
    have hA2 : HoldsA ((store12 w1 W.heap.size q).setCell ⟨W.heap.size + 1, 0, none⟩ (.int .i64 0)) ao (lsOf x1 x4 r) := (storeO_holds hA hfr (by omega) q).farO hfr (a := ⟨W.heap.size + 1, 0, none⟩) (by simp; omega) _
    have hE2 : ((store12 w1 W.heap.size q).setCell ⟨W.heap.size + 1, 0, none⟩ (.int .i64 0)).cell? ⟨W.heap.size + 1, 0, none⟩ = some (.int .i64 0) := by
      have hs : (store12 w1 W.heap.size q).heap[W.heap.size + 1]? = w1.heap[W.heap.size + 1]? := store_far w1 q (by omega)
      have hpre : (store12 w1 W.heap.size q).cell? ⟨W.heap.size + 1, 0, none⟩ = some (.int .i64 0) := cell_of_row _ _ 0 _ _ _ (hs.trans hE1)
      exact World.cell?_setCell_same _ _ _ hpre
    clear hC hE hb3 hg hA hB1 hF1 hE1 hrd
    go_wp2
    dsimp only [store12] at hF2 hB2 hA2 hE2
    generalize World.setCell _ _ _ = wF at hF2 hB2 hA2 hE2 ⊢
    clear k0 k1 k2 k3 k4 k5 k6 k7 k8 k9 k10 k11 kf e0 ef
    obtain ⟨k0, k1, k2, k3, k4, k5, k6, k7, k8, k9, k10, k11⟩ := hF2.cell
    refine leaves_cons (f := 55) (args := #[.pointer (some ⟨W.heap.size, 0, none⟩), .pointer (some ⟨W.heap.size + 1, 0, none⟩)]) (by simp) (by simp [go_sem]) ?_
    refine (catch_idle _ _ _).mono ?_
    rintro e u' w'' ⟨rfl, rfl, rfl⟩
    have hpost : DecodeP xs W (.returned (.tuple #[q.val, .int .i64 0])) w'' :=
      ⟨hB2, .inl ⟨hF, _, rfl, x0, x1, x2, x3, x4, r, ao, c', hxs, by rw [hq'.out], hlen, hA2, fun b hb => Nat.le_trans (by omega) (hfr b hb)⟩⟩
    simp [Leaves, settle, results, Tryz.results22, go_sem, k0, k1, k2, k3, k4, k5, k6, k7, k8, k9, k10, k11, hE2]
    exact hpost
  · have hC1 := hC.grown hg (by omega)
    have hE1 := (hg.block (W.heap.size + 1) (Array.getElem?_eq_some_iff.1 hE).1 (by simp)).trans hE
    have hB1 : Below W.heap.size W w1 := hb3.trans ⟨hg.os, hg.tape, hg.output, hg.size, fun k hk => hg.block k (by omega) (by simp; omega)⟩
    show bodyPostD Tryz.prog Tryz.f22 _ (Exit.panic broken) _ w1
    refine leaves_cons (f := 55) (args := #[.pointer (some ⟨W.heap.size, 0, none⟩), .pointer (some ⟨W.heap.size + 1, 0, none⟩)]) (by simp) (by simp [go_sem]) ?_
    refine (catch_panicking W.heap.size (W.heap.size + 1) (by omega) _ 0 47 _ [] _ hC1 hE1).mono ?_
    rintro e u' w'' ⟨rfl, rfl, rfl⟩
    have hF2 : PB Pkt.zero W.heap.size ((store12 w1 W.heap.size Pkt.zero).setCell ⟨W.heap.size + 1, 0, none⟩ (.int .i64 1)) := (hC1.storeAll Pkt.zero).other (a := ⟨W.heap.size + 1, 0, none⟩) (by simp) _
    have hs : (store12 w1 W.heap.size Pkt.zero).heap[W.heap.size + 1]? = w1.heap[W.heap.size + 1]? := store_far w1 Pkt.zero (by omega)
    have hpre : (store12 w1 W.heap.size Pkt.zero).cell? ⟨W.heap.size + 1, 0, none⟩ = some (.int .i64 0) := cell_of_row _ _ 0 _ _ _ (hs.trans hE1)
    have hE2 := World.cell?_setCell_same _ ⟨W.heap.size + 1, 0, none⟩ (.int .i64 1) hpre
    have hB2 : Below W.heap.size W ((store12 w1 W.heap.size Pkt.zero).setCell ⟨W.heap.size + 1, 0, none⟩ (.int .i64 1)) := (below_storeB hB1 (Nat.le_refl _) Pkt.zero).setCell (p := ⟨W.heap.size + 1, 0, none⟩) (by simp) _
    generalize (store12 w1 W.heap.size Pkt.zero).setCell ⟨W.heap.size + 1, 0, none⟩ (.int .i64 1) = wF at hF2 hE2 hB2 ⊢
    obtain ⟨k0, k1, k2, k3, k4, k5, k6, k7, k8, k9, k10, k11⟩ := hF2.cell
    have hpost : DecodeP xs W (.returned (.tuple #[Pkt.zero.val, .int .i64 1])) wF := ⟨hB2, .inr ⟨hF, rfl⟩⟩
    simp [Leaves, settle, results, Tryz.results22, go_sem, k0, k1, k2, k3, k4, k5, k6, k7, k8, k9, k10, k11, hE2]
    exact hpost
end Go.Proofs.YtakaadcpaeiccabGreat
