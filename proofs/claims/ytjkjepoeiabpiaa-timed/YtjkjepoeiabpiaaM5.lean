import Derived.Test.YtjkjepoeiabpiaaM3
import Derived.Test.YtjkjepoeiabpiaaM4
namespace Go.Proofs.Ytjkjepoeiabpiaa
open Go.RowKit Go.Maps
open Hp

theorem erase_perm (A : List Tm) : ∀ (i : Nat), i < A.length → (at' A i :: A.eraseIdx i).Perm A := by
  induction A with
  | nil => intro i hi; simp at hi
  | cons a A ih =>
    intro i hi
    match i with
    | 0 => simp [at']
    | i + 1 =>
      have hi' : i < A.length := by simpa using hi
      have := ih i hi'
      have e : at' (a :: A) (i + 1) = at' A i := by simp [at']
      rw [e, List.eraseIdx_cons_succ]
      exact (List.Perm.swap _ _ _).trans (this.cons a)

/-- The two sets of timers tell the same. -/
structure Same (A h : List Tm) (last : Int) : Prop where
  perm : h.Perm A
  sorted : A.Pairwise (fun x y => x.2.1 < y.2.1)
  le : ∀ x ∈ A, x.2.1 ≤ last
  heap : Heap h
theorem Same.len {A h : List Tm} {last : Int} (s : Same A h last) : h.length = A.length := s.perm.length_eq
theorem Same.start : Same [] [] 0 := ⟨List.Perm.refl _, List.Pairwise.nil, fun x hx => by simp at hx, fun j h1 h2 => by simp at h2⟩
theorem Same.ids {A h : List Tm} {last : Int} (s : Same A h last) {i j : Nat} (hi : i < A.length) (hj : j < A.length) (h : (at' A i).2.1 = (at' A j).2.1) : i = j := by
  have hp := List.pairwise_iff_getElem.1 s.sorted
  have ei : at' A i = A[i] := at_some (List.getElem?_eq_getElem hi)
  have ej : at' A j = A[j] := at_some (List.getElem?_eq_getElem hj)
  rw [ei, ej] at h
  rcases Nat.lt_trichotomy i j with a | a | a
  · have := hp i j hi hj a; omega
  · exact a
  · have := hp j i hj hi a; omega
theorem Same.find {A h : List Tm} {last : Int} (s : Same A h last) {x : Tm} (hx : x ∈ h) : ∃ i, i < A.length ∧ x = at' A i := by
  obtain ⟨i, hi, rfl⟩ := List.mem_iff_getElem.1 (s.perm.mem_iff.1 hx)
  exact ⟨i, hi, (at_some (List.getElem?_eq_getElem hi)).symm⟩
theorem Same.cut {A h h' : List Tm} {last : Int} (s : Same A h last) {i : Nat} (hi : i < A.length) (hp : (at' A i :: h').Perm h) (hH : Heap h') : Same (A.eraseIdx i) h' last :=
  ⟨List.Perm.cons_inv ((hp.trans s.perm).trans (erase_perm A i hi).symm), s.sorted.sublist (List.eraseIdx_sublist A i), fun x hx => s.le x (List.mem_of_mem_eraseIdx hx), hH⟩
theorem Same.add {A h h' : List Tm} {last : Int} (s : Same A h last) (a b : Int) (hp : h'.Perm (h ++ [(a, last + 1, b)])) (hH : Heap h') : Same (A ++ [(a, last + 1, b)]) h' (last + 1) := by
  refine ⟨hp.trans (s.perm.append_right _), ?_, ?_, hH⟩
  · rw [List.pairwise_append]
    refine ⟨s.sorted, List.pairwise_singleton _ _, fun x hx y hy => ?_⟩
    rw [List.mem_singleton] at hy
    subst hy
    have := s.le x hx
    dsimp only
    omega
  · intro x hx
    rcases List.mem_append.1 hx with hx | hx
    · have := s.le x hx; omega
    · rw [List.mem_singleton] at hx
      subst hx
      exact Int.le_refl _
theorem Same.first {A h : List Tm} {last : Int} (s : Same A h last) {b : Nat} (hb : b < A.length) (h1 : ∀ q, q < A.length → (at' A b).1 ≤ (at' A q).1) (h2 : ∀ q, q < b → (at' A b).1 < (at' A q).1) : 0 < h.length ∧ at' h 0 = at' A b := by
  have hl := s.len
  have h0 : 0 < h.length := by omega
  refine ⟨h0, ?_⟩
  obtain ⟨q, hq, e⟩ := s.find (List.mem_of_getElem? (at_get h0))
  have hm : at' A b ∈ h := s.perm.mem_iff.2 (List.mem_of_getElem? (at_get hb))
  obtain ⟨p, hp, e2⟩ := List.mem_iff_getElem.1 hm
  have hle := s.heap.least p hp
  rw [show at' h p = at' A b by rw [← e2]; exact at_some (List.getElem?_eq_getElem hp), e, Le.iff] at hle
  have a1 := h1 q hq
  rw [e]
  have hqb : ¬ q < b := fun hlt => by have := h2 q hlt; omega
  have hbq : ¬ b < q := fun hlt => by
    have hpw := List.pairwise_iff_getElem.1 s.sorted b q hb hq hlt
    have eb : at' A b = A[b] := at_some (List.getElem?_eq_getElem hb)
    have eq : at' A q = A[q] := at_some (List.getElem?_eq_getElem hq)
    rw [eb, eq] at hle
    rw [eb, eq] at a1
    omega
  rw [show q = b by omega]

/-- What kind of block: its elements, where it is a row. -/
def knd (W : World) (k : Nat) : Option (Option TypeId) := match W.heap[k]? with
  | some (.cells _ e _) => some (some e)
  | some _ => some none
  | none => none
theorem TR.kT {base T M : Nat} {last : Int} {h : List Tm} {v : Value} {W : World} (r : TR base T M last h v W) : knd W T = some (some 105) := by
  have := r.blk
  unfold TBk at this
  simp only [knd, this]
theorem TR.kM {base T M : Nat} {last : Int} {h : List Tm} {v : Value} {W : World} (r : TR base T M last h v W) : knd W M = some none := by
  obtain ⟨_, ⟨_, ⟨es, clock, hm, _⟩, _⟩, _⟩ := r.map
  simp only [knd, hm]
theorem row_knd {W : World} {base e size n : Nat} {v : Value} {xs : List Value} (h : W.ownsRow base e size v n xs) : ∀ k, v.ownBlock = some k → knd W k = some (some e) := by
  intro k hk
  rcases h.2 with ⟨rfl, _⟩ | ⟨g, cap, cur, rfl, _, hg, _⟩
  · simp [Value.ownBlock] at hk
  · simp [Value.ownBlock] at hk
    subst hk
    simp only [knd, hg]
theorem RR.kT {base T : Nat} {last : Int} {A : List Tm} {v : Value} {W : World} (r : RR base T last A v W) : knd W T = some (some 58) := by
  have := r.blk
  unfold RB at this
  simp only [knd, this]
theorem row_same {W W' : World} {base e size n : Nat} {v : Value} {xs : List Value} (h : W.ownsRow base e size v n xs) (he : ∀ k, v.ownBlock = some k → W'.heap[k]? = W.heap[k]?) : W'.ownsRow base e size v n xs := by
  refine ⟨h.1, ?_⟩
  rcases h.2 with h0 | ⟨g, cap, cur, rfl, k1, k2, k3⟩
  · exact .inl h0
  · exact .inr ⟨g, cap, cur, rfl, k1, (he g rfl).trans k2, k3⟩
theorem TR.keep {base T M : Nat} {last : Int} {h : List Tm} {v : Value} {W W' : World} (r : TR base T M last h v W) (hT : W'.heap[T]? = W.heap[T]?) (hM : W'.heap[M]? = W.heap[M]?) (hv : ∀ k, v.ownBlock = some k → W'.heap[k]? = W.heap[k]?) : TR base T M last h v W' := by
  obtain ⟨f, ⟨D, ⟨es, clock, hm, F, hs, he⟩, h2, h3⟩, hp⟩ := r.map
  exact ⟨hT.trans r.blk, row_same r.row hv, ⟨f, ⟨D, ⟨es, clock, hM.trans hm, F, hs, he⟩, h2, h3⟩, hp⟩, r.ok, r.bT, r.bM⟩
theorem RR.keep {base T : Nat} {last : Int} {A : List Tm} {v : Value} {W W' : World} (r : RR base T last A v W) (hT : W'.heap[T]? = W.heap[T]?) (hv : ∀ k, v.ownBlock = some k → W'.heap[k]? = W.heap[k]?) : RR base T last A v W' :=
  ⟨hT.trans r.blk, row_same r.row hv, r.ok, r.bT⟩
theorem TR.lts {base T M : Nat} {last : Int} {h : List Tm} {v : Value} {W : World} (r : TR base T M last h v W) : T < W.heap.size ∧ M < W.heap.size ∧ ∀ k, v.ownBlock = some k → k < W.heap.size := by
  obtain ⟨_, hm, _⟩ := r.map
  exact ⟨r.blk.lt, hm.lt, fun k hk => (r.row.lt k hk).2⟩
theorem RR.lts {base T : Nat} {last : Int} {A : List Tm} {v : Value} {W : World} (r : RR base T last A v W) : T < W.heap.size ∧ ∀ k, v.ownBlock = some k → k < W.heap.size :=
  ⟨r.blk.lt, fun k hk => (r.row.lt k hk).2⟩

def setB {α : Type} (f : Bool → α) (b : Bool) (x : α) : Bool → α := fun c => if c = b then x else f c
theorem setB_same {α : Type} (f : Bool → α) (b : Bool) (x : α) : setB f b x b = x := by simp [setB]
theorem setB_other {α : Type} (f : Bool → α) {b c : Bool} (x : α) (h : c ≠ b) : setB f b x c = f c := by simp [setB, h]
/-- A row of two pointers. -/
def PRow (g : Nat) (p : Bool → Nat) (e : TypeId) (W : World) : Prop := W.heap[g]? = some (.cells #[.pointer (some ⟨p false, 0, none⟩), .pointer (some ⟨p true, 0, none⟩)] e)
theorem PRow.k {g : Nat} {p : Bool → Nat} {e : TypeId} {W : World} (h : PRow g p e W) : knd W g = some (some e) := by
  unfold PRow at h
  simp only [knd, h]
theorem PRow.lt {g : Nat} {p : Bool → Nat} {e : TypeId} {W : World} (h : PRow g p e W) : g < W.heap.size := (Array.getElem?_eq_some_iff.1 h).1

/-- What Timed holds on to: two sets of timers, each kept in two ways. -/
structure Inv (w0 : World) (T M R : Bool → Nat) (gt gr : Nat) (l m : Bool → Int) (h A : Bool → List Tm) (v u : Bool → Value) (W : World) : Prop where
  tr : ∀ b, TR w0.heap.size (T b) (M b) (l b) (h b) (v b) W
  rr : ∀ b, RR w0.heap.size (R b) (m b) (A b) (u b) W
  rowT : PRow gt T 52 W
  rowR : PRow gr R 55 W
  neT : T false ≠ T true
  neM : M false ≠ M true
  neR : R false ≠ R true
  nev : ∀ k, (v false).ownBlock = some k → (v true).ownBlock ≠ some k
  neu : ∀ k, (u false).ownBlock = some k → (u true).ownBlock ≠ some k
  bl : Below w0.heap.size w0 W
section
variable {w0 : World} {T M R : Bool → Nat} {gt gr : Nat} {l m : Bool → Int} {h A : Bool → List Tm} {v u : Bool → Value} {W W' : World}
theorem Inv.later (i : Inv w0 T M R gt gr l m h A v u W) (hb : Below W.heap.size W W') : Inv w0 T M R gt gr l m h A v u W' :=
  ⟨fun b => (i.tr b).later hb, fun b => (i.rr b).later hb, (hb.block gt i.rowT.lt).trans i.rowT, (hb.block gr i.rowR.lt).trans i.rowR, i.neT, i.neM, i.neR, i.nev, i.neu, i.bl.trans (hb.mono i.bl.size)⟩
theorem ne_bool {f : Bool → Nat} (hne : f false ≠ f true) {b c : Bool} (hc : c ≠ b) : f c ≠ f b := by
  cases b <;> cases c <;> first | exact absurd rfl hc | exact hne | exact hne.symm
theorem ne_own {f : Bool → Value} (hne : ∀ k, (f false).ownBlock = some k → (f true).ownBlock ≠ some k) {b c : Bool} (hc : c ≠ b) : ∀ k, (f c).ownBlock = some k → some k ≠ (f b).ownBlock := by
  intro k hk e
  cases b <;> cases c <;> first | exact absurd rfl hc | exact hne k hk e.symm | exact hne k e.symm hk
theorem own_set {f : Bool → Value} (hne : ∀ k, (f false).ownBlock = some k → (f true).ownBlock ≠ some k) {b : Bool} {x : Value} {n : Nat} (hlt : ∀ c k, (f c).ownBlock = some k → k < n) (hx : x.ownBlock = (f b).ownBlock ∨ ∀ k, x.ownBlock = some k → n ≤ k) :
    ∀ k, (setB f b x false).ownBlock = some k → (setB f b x true).ownBlock ≠ some k := by
  intro k hk e
  cases b
  · rw [setB_same] at hk
    rw [setB_other _ _ (by decide)] at e
    rcases hx with hx | hx
    · rw [hx] at hk; exact hne k hk e
    · have := hx k hk; have := hlt true k e; omega
  · rw [setB_same] at e
    rw [setB_other _ _ (by decide)] at hk
    rcases hx with hx | hx
    · rw [hx] at e; exact hne k hk e
    · have := hx k e; have := hlt false k hk; omega
theorem knd_ne {W : World} {a b : Nat} {x y : Option TypeId} (ha : knd W a = some x) (hb : knd W b = some y) (h : x ≠ y) : a ≠ b := by
  rintro rfl
  rw [ha] at hb
  exact h (Option.some.inj hb)
theorem knd_own {W : World} {a : Nat} {v : Value} {x y : Option TypeId} (ha : knd W a = some x) (hb : ∀ k, v.ownBlock = some k → knd W k = some y) (h : x ≠ y) : some a ≠ v.ownBlock := by
  intro e
  have := hb a e.symm
  rw [ha] at this
  exact h (Option.some.inj this)
theorem Inv.stepT (i : Inv w0 T M R gt gr l m h A v u W) (b : Bool) {l' : Int} {h' : List Tm} {v' : Value} (hf : Fr (T b) (M b) (v b) W W') (r : TR w0.heap.size (T b) (M b) l' h' v' W') (hv : v'.ownBlock = (v b).ownBlock ∨ ∀ k, v'.ownBlock = some k → W.heap.size ≤ k) :
    Inv w0 T M R gt gr (setB l b l') m (setB h b h') A (setB v b v') u W' := by
  have tb := i.tr b
  have kT := tb.kT
  have kM := tb.kM
  have kv := row_knd tb.row
  refine ⟨fun c => ?_, fun c => ?_, ?_, ?_, i.neT, i.neM, i.neR, own_set i.nev (fun c => (i.tr c).lts.2.2) hv, i.neu, ?_⟩
  · by_cases hc : c = b
    · subst hc
      rw [setB_same, setB_same, setB_same]
      exact r
    · rw [setB_other _ _ hc, setB_other _ _ hc, setB_other _ _ hc]
      have tc := i.tr c
      obtain ⟨l1, l2, l3⟩ := tc.lts
      refine tc.keep (hf.block _ l1 (ne_bool i.neT hc) (knd_ne tc.kT kM (by decide)) (knd_own tc.kT kv (by decide))) (hf.block _ l2 (knd_ne tc.kM kT (by decide)) (ne_bool i.neM hc) (knd_own tc.kM kv (by decide))) (fun k hk => ?_)
      have kk := row_knd tc.row k hk
      exact hf.block _ (l3 k hk) (knd_ne kk kT (by decide)) (knd_ne kk kM (by decide)) (ne_own i.nev hc k hk)
  · have rc := i.rr c
    obtain ⟨l1, l3⟩ := rc.lts
    refine rc.keep (hf.block _ l1 (knd_ne rc.kT kT (by decide)) (knd_ne rc.kT kM (by decide)) (knd_own rc.kT kv (by decide))) (fun k hk => ?_)
    have kk := row_knd rc.row k hk
    exact hf.block _ (l3 k hk) (knd_ne kk kT (by decide)) (knd_ne kk kM (by decide)) (knd_own kk kv (by decide))
  · exact (hf.block _ i.rowT.lt (knd_ne i.rowT.k kT (by decide)) (knd_ne i.rowT.k kM (by decide)) (knd_own i.rowT.k kv (by decide))).trans i.rowT
  · exact (hf.block _ i.rowR.lt (knd_ne i.rowR.k kT (by decide)) (knd_ne i.rowR.k kM (by decide)) (knd_own i.rowR.k kv (by decide))).trans i.rowR
  · exact i.bl.trans (hf.below tb.bT tb.bM (fun k hk => (tb.row.lt k hk).1) i.bl.size)
theorem Inv.stepR (i : Inv w0 T M R gt gr l m h A v u W) (b : Bool) {m' : Int} {A' : List Tm} {u' : Value} (hf : Fr (R b) (R b) (u b) W W') (r : RR w0.heap.size (R b) m' A' u' W') (hv : u'.ownBlock = (u b).ownBlock ∨ ∀ k, u'.ownBlock = some k → W.heap.size ≤ k) :
    Inv w0 T M R gt gr l (setB m b m') h (setB A b A') v (setB u b u') W' := by
  have tb := i.rr b
  have kT := tb.kT
  have kv := row_knd tb.row
  refine ⟨fun c => ?_, fun c => ?_, ?_, ?_, i.neT, i.neM, i.neR, i.nev, own_set i.neu (fun c => (i.rr c).lts.2) hv, ?_⟩
  · have tc := i.tr c
    obtain ⟨l1, l2, l3⟩ := tc.lts
    refine tc.keep (hf.block _ l1 (knd_ne tc.kT kT (by decide)) (knd_ne tc.kT kT (by decide)) (knd_own tc.kT kv (by decide))) (hf.block _ l2 (knd_ne tc.kM kT (by decide)) (knd_ne tc.kM kT (by decide)) (knd_own tc.kM kv (by decide))) (fun k hk => ?_)
    have kk := row_knd tc.row k hk
    exact hf.block _ (l3 k hk) (knd_ne kk kT (by decide)) (knd_ne kk kT (by decide)) (knd_own kk kv (by decide))
  · by_cases hc : c = b
    · subst hc
      rw [setB_same, setB_same, setB_same]
      exact r
    · rw [setB_other _ _ hc, setB_other _ _ hc, setB_other _ _ hc]
      have rc := i.rr c
      obtain ⟨l1, l3⟩ := rc.lts
      refine rc.keep (hf.block _ l1 (ne_bool i.neR hc) (ne_bool i.neR hc) (knd_own rc.kT kv (by decide))) (fun k hk => ?_)
      have kk := row_knd rc.row k hk
      exact hf.block _ (l3 k hk) (knd_ne kk kT (by decide)) (knd_ne kk kT (by decide)) (ne_own i.neu hc k hk)
  · exact (hf.block _ i.rowT.lt (knd_ne i.rowT.k kT (by decide)) (knd_ne i.rowT.k kT (by decide)) (knd_own i.rowT.k kv (by decide))).trans i.rowT
  · exact (hf.block _ i.rowR.lt (knd_ne i.rowR.k kT (by decide)) (knd_ne i.rowR.k kT (by decide)) (knd_own i.rowR.k kv (by decide))).trans i.rowR
  · exact i.bl.trans (hf.below tb.bT tb.bT (fun k hk => (tb.row.lt k hk).1) i.bl.size)
end
end Go.Proofs.Ytjkjepoeiabpiaa
