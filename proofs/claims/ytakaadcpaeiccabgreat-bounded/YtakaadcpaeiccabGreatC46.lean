import Derived.Test.YtakaadcpaeiccabGreatC45
import Derived.Test.YtakaadcpaeiccabGreatC43
import Derived.Test.YtakaadcpaeiccabGreatC37
namespace Go.Proofs.YtakaadcpaeiccabGreat

/-! What a node does in a call, as single small steps. -/

/-- What is heard: from whom, the packet, what is lost. -/
abbrev Hrd := Option (Int × Pkt × List (Int × Int))
/-- Is a line at least as good as a number and hops? -/
def RkGe (x : Option Rt) (q h : Int) : Prop := ∃ y, x = some y ∧ (q < rk y ∨ (rk y = q ∧ y.hops ≤ h))
/-- A small step of a table. -/
inductive TOp (me now : Int) (c : Hrd) (A : List Rt) : List Rt → Prop
  | upd1 (fr : Int) (p : Pkt) (L : List (Int × Int)) (e : Int) (hc : c = some (fr, p, L)) (hk : p.kind = 1) : TOp me now c A (updL me A p.frm p.fseq (St.far p.hops) fr e).1
  | upd2 (fr : Int) (p : Pkt) (L : List (Int × Int)) (e : Int) (hc : c = some (fr, p, L)) (hk : p.kind = 2) : TOp me now c A (updL me A p.dest p.dseq (St.far p.hops) fr e).1
  | use (d e : Int) : TOp me now c A (useL A d e)
  | bef (d n : Int) : TOp me now c A (befL A d n)
  | lose (fr : Int) (p : Pkt) (L : List (Int × Int)) (hc : c = some (fr, p, L)) (x : Int × Int) (hx : x ∈ L) : TOp me now c A (loseL A fr x.1 x.2)
  | brk (nxt : Int) : TOp me now c A (A.map (loseF nxt 0))
  | grow (d : Int) (h : ∀ y, lineOf A d = some y → y.valid = false) : TOp me now c A (modL A d St.growF)
/-- Why a packet may go out. -/
def Just (c : Hrd) (s : St) (p : Pkt) (L : List (Int × Int)) : Prop :=
  (p.kind = 1 ∧ p.frm = s.me ∧ p.hops = 0 ∧ 1 ≤ p.ttl ∧ p.ttl ≤ 8 ∧ p.fseq = s.seq ∧ p.dseq = numL s.A p.dest) ∨
  (∃ fr q K, c = some (fr, q, K) ∧ q.kind = 1 ∧ p.kind = 1 ∧ p.frm = q.frm ∧ p.fseq = q.fseq ∧ p.hops = St.far q.hops ∧ p.ttl = q.ttl - 1 ∧ q.ttl ≠ 1 ∧ p.frm ≠ s.me ∧ (p.dseq = q.dseq ∨ p.dseq = numL s.A p.dest) ∧ (p.frm ≠ 0 → RkGe (lineOf s.A p.frm) p.fseq p.hops)) ∨
  (p.kind = 2 ∧ p.dest = s.me ∧ p.hops = 0 ∧ p.ttl = 8 ∧ p.dseq = s.seq) ∨
  (p.kind = 2 ∧ p.ttl = 8 ∧ ∃ y, lineOf s.A p.dest = some y ∧ y.valid = true ∧ p.dseq = y.seq ∧ p.hops = y.hops) ∨
  (∃ fr q K, c = some (fr, q, K) ∧ q.kind = 2 ∧ p.kind = 2 ∧ p.dest = q.dest ∧ p.dseq = q.dseq ∧ p.hops = St.far q.hops ∧ p.ttl = q.ttl - 1 ∧ q.ttl ≠ 1 ∧ p.dest ≠ s.me ∧ (p.dest ≠ 0 → RkGe (lineOf s.A p.dest) p.dseq p.hops)) ∨
  (p.kind = 3 ∧ ∀ x ∈ L, x.2 = 0 ∨ ∃ y ∈ s.A, y.dest = x.1 ∧ x.2 ≤ y.seq ∧ (0 ≤ x.2 ∨ x.2 = y.seq)) ∨
  p.kind = 9
/-- Two states that differ in nothing that is told. -/
structure SamT (s s' : St) : Prop where
  me : s'.me = s.me
  seq : s'.seq = s.seq
  A : s'.A = s.A
  f : s'.f = s.f
  own : s'.own = s.own
  cnt : s'.cnt = s.cnt
  nws : s'.nws = s.nws
  rep : s'.rep = s.rep
  frs : s'.frs = s.frs
  now : s'.now = s.now
inductive Pr (c : Hrd) (s : St) : St → Prop
  | oth {s' : St} (h : SamT s s') : Pr c s s'
  | tab {A : List Rt} (h : TOp s.me s.now c s.A A) : Pr c s { s with A := A }
  | frm (t : Int) (p : Pkt) (L : List (Int × Int)) (h : Just c s p L) (hz : L = [] ∨ L.length = p.ln) : Pr c s (s.send t p L)
  | grw : Pr c s { s with seq := gr s.seq }
  | mx (fr : Int) (p : Pkt) (L : List (Int × Int)) (hc : c = some (fr, p, L)) : Pr c s { s with seq := max s.seq p.dseq }
  | wr : Pr c s s.write
/-- At most n small steps. -/
inductive Prs (c : Hrd) : Nat → St → St → Prop
  | nil (n : Nat) (s : St) : Prs c n s s
  | snoc {n : Nat} {s s1 s2 : St} (h : Prs c n s s1) (k : Pr c s1 s2) : Prs c (n + 1) s s2
theorem Prs.up {c : Hrd} {n k : Nat} {s s' : St} (h : Prs c n s s') (hk : n ≤ k) : Prs c k s s' := by
  induction h generalizing k with
  | nil n s => exact .nil _ _
  | snoc h1 h2 ih =>
    obtain ⟨j, rfl⟩ : ∃ j, k = j + 1 := ⟨k - 1, by omega⟩
    exact .snoc (ih (by omega)) h2
theorem Prs.trans {c : Hrd} {n k : Nat} {s s1 s2 : St} (h : Prs c n s s1) (g : Prs c k s1 s2) : Prs c (n + k) s s2 := by
  induction g with
  | nil k s => exact h.up (by omega)
  | snoc g1 g2 ih => exact .snoc (ih h) g2
theorem Prs.one {c : Hrd} {s s' : St} (h : Pr c s s') : Prs c 1 s s' := .snoc (.nil 0 s) h
theorem Prs.oth {c : Hrd} {s s' : St} (h : SamT s s') : Prs c 1 s s' := .one (.oth h)
theorem SamT.refl (s : St) : SamT s s := ⟨rfl, rfl, rfl, rfl, rfl, rfl, rfl, rfl, rfl, rfl⟩
theorem Prs.me {c : Hrd} {n : Nat} {s s' : St} (h : Prs c n s s') : s'.me = s.me := by
  induction h with
  | nil => rfl
  | snoc _ k ih =>
    rw [← ih]
    cases k with
    | oth h => exact h.me
    | _ => rfl
theorem Prs.now {c : Hrd} {n : Nat} {s s' : St} (h : Prs c n s s') : s'.now = s.now := by
  induction h with
  | nil => rfl
  | snoc _ k ih =>
    rw [← ih]
    cases k with
    | oth h => exact h.now
    | _ => rfl

theorem prs_drop (c : Hrd) (s : St) (r : Int) : Prs c 1 s (s.drop r) := .oth ⟨rfl, rfl, rfl, rfl, rfl, rfl, rfl, rfl, rfl, rfl⟩
theorem prs_lose (c : Hrd) (s : St) (t : Int) (L : List (Int × Int)) (h : ∀ x ∈ L, x.2 = 0 ∨ ∃ y ∈ s.A, y.dest = x.1 ∧ x.2 ≤ y.seq ∧ (0 ≤ x.2 ∨ x.2 = y.seq)) : Prs c 1 s (s.lose t L) := by
  unfold St.lose lsF
  split
  · exact .oth ⟨rfl, rfl, rfl, rfl, rfl, rfl, rfl, rfl, by simp, rfl⟩
  · exact .one (.frm t (lsP L.length) L (.inr (.inr (.inr (.inr (.inr (.inl ⟨rfl, h⟩)))))) (.inr rfl))
theorem numL_le (A : List Rt) (d : Int) : numL A d = 0 ∨ ∃ y ∈ A, y.dest = d ∧ numL A d ≤ y.seq ∧ (0 ≤ numL A d ∨ numL A d = y.seq) := by
  unfold numL
  cases h : lineOf A d with
  | none => exact .inl rfl
  | some y => exact .inr ⟨y, (lineOf_some h).1, (lineOf_some h).2, Int.le_refl _, .inr rfl⟩
theorem prs_loseOne (c : Hrd) (s : St) (t d : Int) : Prs c 1 s (s.loseOne t d) := prs_lose c s t _ fun x hx => by
  rw [List.mem_singleton] at hx
  subst hx
  exact numL_le s.A d
theorem prs_sendText (c : Hrd) (s : St) (d : Int) (t : ByteArray) : Prs c 3 s (s.sendText d t) := by
  unfold St.sendText
  split
  · refine Prs.snoc (Prs.snoc (Prs.oth (s' := { s with ldat := (s.ldat + 1) % 4294967296 }) ⟨rfl, rfl, rfl, rfl, rfl, rfl, rfl, rfl, rfl, rfl⟩) (.tab (.use d (s.now + 3000)))) (.frm _ _ [] ?_ (.inl rfl))
    exact .inr (.inr (.inr (.inr (.inr (.inr rfl)))))
  · exact .nil _ _
theorem prs_texts (c : Hrd) (d : Int) (l : List ByteArray) (s : St) : Prs c (3 * l.length) s (l.foldl (fun s t => s.sendText d t) s) := by
  induction l generalizing s with
  | nil => exact .nil _ _
  | cons a l ih =>
    rw [List.foldl_cons, List.length_cons]
    exact ((prs_sendText c s d a).trans (ih _)).up (by omega)
theorem prs_sendAll (c : Hrd) (s : St) (d : Int) (h4 : ∀ q ∈ s.Q, q.txt.length ≤ 4) : Prs c 13 s (s.sendAll d) := by
  unfold St.sendAll
  cases hq : St.srOf s.Q d with
  | none => exact .nil _ _
  | some q =>
    dsimp only
    split
    · have := h4 q (srOf_some hq).1
      have h1 := prs_texts c d q.txt s
      refine Prs.up (Prs.snoc h1 (.oth ?_)) (by omega)
      exact ⟨rfl, rfl, rfl, rfl, rfl, rfl, rfl, rfl, rfl, rfl⟩
    · exact .nil _ _
theorem prs_request (c : Hrd) (s : St) (d ttl : Int) (ht : 1 ≤ ttl ∧ ttl ≤ 8) : Prs c 5 s (s.request d ttl) := by
  unfold St.request
  refine Prs.snoc (Prs.snoc (Prs.snoc (Prs.snoc (Prs.oth (s' := { s with lreq := (s.lreq + 1) % 4294967296 }) ⟨rfl, rfl, rfl, rfl, rfl, rfl, rfl, rfl, rfl, rfl⟩) .grw) .wr) (.oth ?_)) (.frm 0 _ [] ?_ (.inl rfl))
  · exact ⟨rfl, rfl, rfl, rfl, rfl, rfl, rfl, rfl, rfl, rfl⟩
  · exact .inl ⟨rfl, rfl, rfl, ht.1, ht.2, rfl, rfl⟩
theorem prs_ask (c : Hrd) (s : St) (q : Sr) (ht : 1 ≤ q.ttl ∧ q.ttl ≤ 8) : Prs c 6 s (s.ask q) := by
  unfold St.ask
  split
  · exact Prs.up (n := 1) (.oth ⟨rfl, rfl, rfl, rfl, rfl, rfl, rfl, rfl, rfl, rfl⟩) (by decide)
  · split
    · exact Prs.up (n := 1) (.oth ⟨rfl, rfl, rfl, rfl, rfl, rfl, rfl, rfl, rfl, rfl⟩) (by decide)
    · exact Prs.snoc (prs_request c s q.dest q.ttl ht) (.oth ⟨rfl, rfl, rfl, rfl, rfl, rfl, rfl, rfl, rfl, rfl⟩)
theorem prs_widen (c : Hrd) (s : St) (q : Sr) (ht : 1 ≤ q.ttl ∧ q.ttl ≤ 8) : Prs c 6 s (s.widen q) := by
  unfold St.widen
  split
  · exact prs_ask c s _ (by dsimp only; omega)
  · split
    · exact prs_ask c s _ (by dsimp only; omega)
    · split
      · exact prs_ask c s _ ht
      · exact Prs.up (n := 1) (.oth ⟨rfl, rfl, rfl, rfl, rfl, rfl, rfl, rfl, rfl, rfl⟩) (by decide)
theorem prs_step (c : Hrd) (s : St) (q : Sr) (ht : 1 ≤ q.ttl ∧ q.ttl ≤ 8) (h4 : ∀ q ∈ s.Q, q.txt.length ≤ 4) : Prs c 13 s (s.step q) := by
  unfold St.step
  split
  · exact prs_sendAll c s q.dest h4
  · split
    · exact (prs_widen c s q ht).up (by omega)
    · exact (prs_ask c s q ht).up (by omega)
theorem prs_await (c : Hrd) (s : St) (d : Int) (t : ByteArray) : Prs c 7 s (s.await d t) := by
  unfold St.await
  cases hq : St.srOf s.Q d with
  | some q =>
    dsimp only
    refine (Prs.oth ?_).up (by omega)
    unfold St.hold
    split <;> exact ⟨rfl, rfl, rfl, rfl, rfl, rfl, rfl, rfl, rfl, rfl⟩
  | none =>
    exact Prs.up (n := 1 + 6) (Prs.trans (.oth (s' := { s with Q := s.Q ++ [St.newQ d t] }) ⟨rfl, rfl, rfl, rfl, rfl, rfl, rfl, rfl, rfl, rfl⟩) (prs_ask c _ (St.newQ d t) (by show (1 : Int) ≤ 1 ∧ (1 : Int) ≤ 8; omega))) (by decide)
/-- The rank of a line is at least what was told of it. -/
theorem rkge_map {A : List Rt} {d q h : Int} (f : Rt → Rt) (hd : ∀ y, (f y).dest = y.dest) (hr : ∀ y, y.dest = d → rk (f y) = rk y ∧ (f y).hops = y.hops) (x : RkGe (lineOf A d) q h) : RkGe (lineOf (A.map f) d) q h := by
  obtain ⟨y, hy, h1⟩ := x
  obtain ⟨_, hyd⟩ := lineOf_some hy
  refine ⟨f y, ?_, ?_⟩
  · unfold lineOf at hy ⊢
    rw [List.find?_map]
    have : ((fun x : Rt => x.dest == d) ∘ f) = fun x => x.dest == d := by
      funext z
      simp [hd]
    rw [this, hy]
    rfl
  · obtain ⟨e1, e2⟩ := hr y hyd
    rw [e1, e2]
    exact h1
theorem rkge_use {A : List Rt} {d q h : Int} (d' e : Int) (x : RkGe (lineOf A d) q h) : RkGe (lineOf (useL A d' e) d) q h := by
  refine rkge_map _ (fun y => ?_) (fun y _ => ?_) x
  · split
    · exact useF_dest e y
    · rfl
  · split
    · unfold useF
      split
      · exact ⟨rfl, rfl⟩
      · exact ⟨rfl, rfl⟩
    · exact ⟨rfl, rfl⟩
theorem rkge_bef {A : List Rt} {d q h : Int} (d' n : Int) (x : RkGe (lineOf A d) q h) : RkGe (lineOf (befL A d' n) d) q h := by
  refine rkge_map _ (fun y => ?_) (fun y _ => ?_) x
  · split
    · exact befF_dest n y
    · rfl
  · split
    · unfold befF
      split
      · exact ⟨rfl, rfl⟩
      · exact ⟨rfl, rfl⟩
    · exact ⟨rfl, rfl⟩
theorem lineOf_insL (A : List Rt) (x : Rt) (h : lineOf A x.dest = none) : lineOf (insL A x) x.dest = some x := by
  unfold insL lineOf
  rw [List.find?_append]
  have h1 : (A.take (pos A x.dest)).find? (fun z => z.dest == x.dest) = none := by
    rw [List.find?_eq_none]
    intro z hz
    have := (lineOf_none.1 h) z (List.mem_of_mem_take hz)
    simpa using this
  rw [h1]
  simp
theorem rkge_upd {me : Int} {A : List Rt} {d q h n e : Int} (hd : d ≠ me) (h0 : d ≠ 0) (h4 : (updL me A d q h n e).2 ≠ 4) : RkGe (lineOf (updL me A d q h n e).1 d) q h := by
  unfold updL at h4 ⊢
  rw [if_neg (by simp [hd, h0])] at h4 ⊢
  cases hl : lineOf A d with
  | none =>
    rw [hl] at h4
    dsimp only at h4 ⊢
    split at h4
    · exact absurd rfl h4
    · rename_i h8
      rw [if_neg h8]
      exact ⟨newR d q h n e, lineOf_insL A (newR d q h n e) hl, .inr ⟨rfl, Int.le_refl _⟩⟩
  | some x =>
    dsimp only
    obtain ⟨hx, hxd⟩ := lineOf_some hl
    split
    · refine ⟨updF q h n e x, ?_, .inr ⟨rfl, Int.le_refl _⟩⟩
      unfold modL lineOf
      rw [List.find?_map]
      have : ((fun x : Rt => x.dest == d) ∘ fun x => if x.dest = d then updF q h n e x else x) = fun x => x.dest == d := by
        funext z
        by_cases e : z.dest = d <;> simp [e, updF]
      rw [this, show List.find? (fun x => x.dest == d) A = some x from hl]
      simp [hxd]
    · rename_i hg
      refine ⟨x, hl, ?_⟩
      have h2 := grt_not (newR d q h n e) x
      have h3 : grt (newR d q h n e) x = false := by simpa using hg
      rw [h3] at h2
      have e1 : rk (newR d q h n e) = q := rfl
      rw [e1] at h2
      simp only [Bool.not_false, Bool.true_eq, Bool.or_eq_true, Bool.and_eq_true, decide_eq_true_eq] at h2
      rcases h2 with h2 | ⟨h2, h3⟩
      · exact .inl h2
      · exact .inr ⟨h2.symm, h3⟩
theorem prs_answer (c : Hrd) (s : St) (p : Pkt) (hp : (p.dest = s.me ∧ p.hops = 0 ∧ p.dseq = s.seq) ∨ ∃ y, lineOf s.A p.dest = some y ∧ y.valid = true ∧ p.dseq = y.seq ∧ p.hops = y.hops) : Prs c 1 s (s.answer p) := by
  unfold St.answer
  split
  · refine .one (.frm _ _ [] ?_ (.inl rfl))
    rcases hp with ⟨h1, h2, h3⟩ | h
    · exact .inr (.inr (.inl ⟨rfl, h1, h2, rfl, h3⟩))
    · exact .inr (.inr (.inr (.inl ⟨rfl, rfl, h⟩)))
  · exact prs_drop c s 3
theorem findL_line {A : List Rt} {d now : Int} (h : (findL A d now).2 = true) : lineOf A d = some (findL A d now).1 ∧ (findL A d now).1.valid = true := by
  unfold findL at h ⊢
  cases hl : lineOf A d with
  | none => rw [hl] at h; cases h
  | some x =>
    rw [hl] at h
    dsimp only at h ⊢
    split at h
    · rename_i hv
      rw [if_pos hv]
      simp only [Bool.and_eq_true] at hv
      exact ⟨rfl, hv.1⟩
    · cases h
theorem lineOf_map {A : List Rt} {d : Int} {f : Rt → Rt} (hd : ∀ y, (f y).dest = y.dest) {y : Rt} (h : lineOf A d = some y) : lineOf (A.map f) d = some (f y) := by
  unfold lineOf at h ⊢
  rw [List.find?_map]
  have : ((fun x : Rt => x.dest == d) ∘ f) = fun x => x.dest == d := by
    funext z
    simp [hd]
  rw [this, h]
  rfl
theorem line_bef {A : List Rt} {d d' n : Int} {y : Rt} (h : lineOf A d = some y) : ∃ z, lineOf (befL A d' n) d = some z ∧ z.valid = y.valid ∧ z.seq = y.seq ∧ z.hops = y.hops := by
  refine ⟨_, lineOf_map (f := fun x => if x.dest = d' then befF n x else x) (fun y => ?_) h, ?_⟩
  · split
    · exact befF_dest n y
    · rfl
  · split
    · unfold befF
      split <;> exact ⟨rfl, rfl, rfl⟩
    · exact ⟨rfl, rfl, rfl⟩
theorem prs_asked (s : St) (fr : Int) (p : Pkt) (L : List (Int × Int)) (hk : p.kind = 1) (hme : p.frm ≠ s.me) (hr : p.frm ≠ 0 → RkGe (lineOf s.A p.frm) p.fseq (St.far p.hops)) : Prs (some (fr, p, L)) 3 s (s.asked p) := by
  unfold St.asked
  split
  · unfold St.answerSelf
    exact ((Prs.one (.mx fr p L rfl)).trans (prs_answer _ _ _ (.inl ⟨rfl, rfl, rfl⟩))).up (by omega)
  · split
    · rename_i hf
      simp only [Bool.and_eq_true] at hf
      obtain ⟨h1, h2⟩ := findL_line hf.1
      unfold St.answerOther
      have hb : ∃ z, lineOf (if (findL s.A p.frm s.now).2 then befL s.A p.dest (findL s.A p.frm s.now).1.next else s.A) p.dest = some z ∧ z.valid = true ∧ z.seq = (findL s.A p.dest s.now).1.seq ∧ z.hops = (findL s.A p.dest s.now).1.hops := by
        split
        · obtain ⟨z, e1, e2, e3, e4⟩ := line_bef (d' := p.dest) (n := (findL s.A p.frm s.now).1.next) h1
          exact ⟨z, e1, e2.trans h2, e3, e4⟩
        · exact ⟨_, h1, h2, rfl, rfl⟩
      have hs1 : Prs (some (fr, p, L)) 1 s { s with A := if (findL s.A p.frm s.now).2 then befL s.A p.dest (findL s.A p.frm s.now).1.next else s.A } := by
        split
        · exact .one (.tab (.bef _ _))
        · exact .nil _ _
      obtain ⟨z, e1, e2, e3, e4⟩ := hb
      obtain ⟨u, k1, k2, k3, k4⟩ := line_bef (d' := p.frm) (n := (findL s.A p.dest s.now).1.next) e1
      refine Prs.up (n := 1 + 1 + 1) ((hs1.snoc (.tab (.bef _ _))).trans (prs_answer _ _ _ (.inr ⟨u, k1, k2.trans e2, ?_, ?_⟩))) (by decide)
      · exact (k3.trans e3).symm
      · exact (k4.trans e4).symm
    · split
      · exact (prs_drop _ _ _).up (by omega)
      · rename_i ht
        unfold St.askOn
        refine Prs.up (n := 1) (.one (.frm 0 { p with ttl := p.ttl - 1, hops := St.far p.hops, dseq := if (lineOf s.A p.dest).isSome then max p.dseq (numL s.A p.dest) else p.dseq, unk := if (lineOf s.A p.dest).isSome then false else p.unk } [] (.inr (.inl ⟨fr, p, L, rfl, hk, hk, rfl, rfl, rfl, rfl, ht, hme, ?_, hr⟩)) (.inl rfl))) (by decide)
        dsimp only
        split
        · rcases Int.le_total p.dseq (numL s.A p.dest) with h | h
          · exact .inr (Int.max_eq_right h)
          · exact .inl (Int.max_eq_left h)
        · exact .inl rfl
theorem prs_hearRequest (s : St) (fr : Int) (p : Pkt) (L : List (Int × Int)) (hk : p.kind = 1) : Prs (some (fr, p, L)) 7 s (s.hearRequest fr p) := by
  unfold St.hearRequest
  split
  · exact (prs_drop _ _ _).up (by omega)
  · rename_i hn
    simp only [not_or] at hn
    obtain ⟨hme, _⟩ := hn
    refine Prs.up (n := 1 + 6) (Prs.trans (.oth (s' := { s with mem := seenAdd s.mem (p.frm, p.id) (s.now + 1280) s.tn, tn := s.tn + 1 }) ⟨rfl, rfl, rfl, rfl, rfl, rfl, rfl, rfl, rfl, rfl⟩) ?_) (by decide)
    unfold St.learn
    have hup : Prs (some (fr, p, L)) 1 ({ s with mem := seenAdd s.mem (p.frm, p.id) (s.now + 1280) s.tn, tn := s.tn + 1 } : St) { s with mem := seenAdd s.mem (p.frm, p.id) (s.now + 1280) s.tn, tn := s.tn + 1, A := (updL s.me s.A p.frm p.fseq (St.far p.hops) fr (s.now + 3000)).1 } := .one (.tab (.upd1 fr p L (s.now + 3000) rfl hk))
    split
    · exact (hup.trans (prs_drop _ _ 2)).up (by omega)
    · rename_i h4
      have hr : p.frm ≠ 0 → RkGe (lineOf (updL s.me s.A p.frm p.fseq (St.far p.hops) fr (s.now + 3000)).1 p.frm) p.fseq (St.far p.hops) := fun h0 => rkge_upd hme h0 h4
      split
      · refine ((hup.snoc (.tab (.use p.frm (s.now + 3000)))).trans (prs_asked _ fr p L hk hme fun h0 => rkge_use _ _ (hr h0))).up (by omega)
      · exact (hup.trans (prs_asked _ fr p L hk hme hr)).up (by omega)
theorem prs_hearReply (s : St) (fr : Int) (p : Pkt) (L : List (Int × Int)) (hk : p.kind = 2) (h4 : ∀ q ∈ s.Q, q.txt.length ≤ 4) : Prs (some (fr, p, L)) 15 s (s.hearReply fr p) := by
  unfold St.hearReply
  split
  · exact (prs_drop _ _ _).up (by omega)
  · rename_i hme
    dsimp only
    have hup : Prs (some (fr, p, L)) 1 s { s with A := (updL s.me s.A p.dest p.dseq (St.far p.hops) fr (s.now + p.life)).1 } := .one (.tab (.upd2 fr p L (s.now + p.life) rfl hk))
    split
    · exact (hup.trans (prs_drop _ _ 2)).up (by omega)
    · rename_i h5
      have hr : p.dest ≠ 0 → RkGe (lineOf (updL s.me s.A p.dest p.dseq (St.far p.hops) fr (s.now + p.life)).1 p.dest) p.dseq (St.far p.hops) := fun h0 => rkge_upd hme h0 h5
      split
      · have ha := hup.trans (prs_sendAll (some (fr, p, L)) _ p.dest h4)
        split
        · exact Prs.up (n := 1 + 13 + 1) (ha.trans (prs_drop _ _ 7)) (by decide)
        · exact ha.up (by omega)
      · split
        · exact (hup.trans (prs_drop _ _ 4)).up (by omega)
        · rename_i ht
          refine Prs.up (n := 1 + 4) (hup.trans ?_) (by decide)
          unfold St.replyOn
          split
          · refine Prs.snoc (Prs.snoc (Prs.snoc (Prs.one (.tab (.bef _ _))) (.tab (.bef _ _))) (.tab (.use _ _))) (.frm _ _ [] ?_ (.inl rfl))
            exact .inr (.inr (.inr (.inr (.inl ⟨fr, p, L, rfl, hk, hk, rfl, rfl, rfl, rfl, ht, hme, fun h0 => rkge_use _ _ (rkge_bef _ _ (rkge_bef _ _ (hr h0)))⟩))))
          · exact (prs_drop _ _ 3).up (by omega)
theorem prs_hearData (s : St) (fr : Int) (p : Pkt) (L : List (Int × Int)) (hk : p.kind = 9) (hx : ∀ y ∈ s.A, y.valid = true → s.now < y.exp) : Prs (some (fr, p, L)) 3 s (s.hearData fr p) := by
  unfold St.hearData
  split
  · exact Prs.up (n := 1) (.oth ⟨rfl, rfl, rfl, rfl, rfl, rfl, rfl, rfl, rfl, rfl⟩) (by decide)
  · split
    · exact (prs_drop _ _ _).up (by omega)
    · split
      · exact Prs.snoc (Prs.snoc (Prs.one (.tab (.use _ _))) (.tab (.use _ _))) (.frm _ _ [] (.inr (.inr (.inr (.inr (.inr (.inr hk)))))) (.inl rfl))
      · rename_i hf
        refine Prs.trans (n := 2) (k := 1) ?_ (prs_loseOne _ _ _ _)
        refine Prs.snoc (prs_drop _ s 3) (.tab (.grow p.dest ?_))
        intro y hy
        have hy' : lineOf s.A p.dest = some y := hy
        cases hv : y.valid with
        | false => rfl
        | true =>
          exfalso
          apply hf
          unfold findL
          rw [hy']
          dsimp only
          have := hx y (lineOf_some hy').1 hv
          rw [hv, if_pos (by simpa using this)]
theorem prs_hearSilent (c : Hrd) (s : St) (fr : Int) (p : Pkt) : Prs c 3 s (s.hearSilent fr p) := by
  unfold St.hearSilent
  split
  · refine Prs.trans (n := 1) (k := 2) (prs_drop _ s 8) ?_
    exact Prs.snoc (prs_loseOne _ _ _ _) (.oth ⟨rfl, rfl, rfl, rfl, rfl, rfl, rfl, rfl, rfl, rfl⟩)
  · exact (prs_drop _ _ _).up (by omega)
theorem seq_loseF (fr q : Int) (y : Rt) : y.seq ≤ (loseF fr q y).seq := by
  unfold loseF
  split
  · show y.seq ≤ max (gr y.seq) q
    have : y.seq ≤ gr y.seq := by unfold gr; omega
    omega
  · exact Int.le_refl _
theorem numL_lost {A : List Rt} {fr d : Int} (q : Int) (h : loseB A fr d = true) : 0 ≤ numL (loseL A fr d q) d := by
  unfold loseB at h
  cases hl : lineOf A d with
  | none => rw [hl] at h; cases h
  | some y =>
    rw [hl] at h
    have hv : (y.valid && (y.next == fr)) = true := h
    have h1 := lineOf_map (f := fun x => if x.dest = d then loseF fr q x else x) (fun y => by split; exact loseF_dest fr q y; rfl) hl
    unfold numL loseL modL
    rw [h1, if_pos (lineOf_some hl).2]
    show 0 ≤ (loseF fr q y).seq
    unfold loseF
    rw [if_pos hv]
    show 0 ≤ max (gr y.seq) q
    have : 0 ≤ gr y.seq := by unfold gr; omega
    omega
theorem prs_losses (fr : Int) (p : Pkt) (K : List (Int × Int)) : ∀ (L : List (Int × Int)), (∀ x ∈ L, x ∈ K) → ∀ (s : St) (b : Bool) (T : List (Int × Int)), (∀ x ∈ T, 0 ≤ x.2 ∧ (x.2 = 0 ∨ ∃ y ∈ s.A, y.dest = x.1 ∧ x.2 ≤ y.seq)) →
    Prs (some (fr, p, K)) L.length s { s with A := (L.foldl (St.lsS fr) (s.A, b, T)).1 } ∧ ∀ x ∈ (L.foldl (St.lsS fr) (s.A, b, T)).2.2, 0 ≤ x.2 ∧ (x.2 = 0 ∨ ∃ y ∈ (L.foldl (St.lsS fr) (s.A, b, T)).1, y.dest = x.1 ∧ x.2 ≤ y.seq) := by
  intro L
  induction L with
  | nil => exact fun _ s b T hT => ⟨.nil _ _, hT⟩
  | cons a L ih =>
    intro hK s b T hT
    rw [List.foldl_cons, List.length_cons]
    have hK' : ∀ x ∈ L, x ∈ K := fun x hx => hK x (List.mem_cons_of_mem _ hx)
    unfold St.lsS
    dsimp only
    split
    · rename_i hlb
      have h1 : Prs (some (fr, p, K)) 1 s { s with A := loseL s.A fr a.1 a.2 } := .one (.tab (.lose fr p K rfl a (hK a List.mem_cons_self)))
      have hkeep : ∀ x : Int × Int, (x.2 = 0 ∨ ∃ y ∈ s.A, y.dest = x.1 ∧ x.2 ≤ y.seq) → x.2 = 0 ∨ ∃ y ∈ loseL s.A fr a.1 a.2, y.dest = x.1 ∧ x.2 ≤ y.seq := fun x hx => by
        rcases hx with h | ⟨y, hy, e, h⟩
        · exact .inl h
        · refine .inr ⟨if y.dest = a.1 then loseF fr a.2 y else y, List.mem_map.2 ⟨y, hy, rfl⟩, ?_⟩
          split
          · exact ⟨(loseF_dest _ _ y).trans e, Int.le_trans h (seq_loseF fr a.2 y)⟩
          · exact ⟨e, h⟩
      have h2 := ih hK' { s with A := loseL s.A fr a.1 a.2 } true (if ((lineOf s.A a.1).any fun y => decide (0 < y.bef.length)) then T ++ [(a.1, numL (loseL s.A fr a.1 a.2) a.1)] else T) (fun x hx => by
        split at hx
        · rcases List.mem_append.1 hx with h | h
          · exact ⟨(hT x h).1, hkeep x (hT x h).2⟩
          · rw [List.mem_singleton] at h
            subst h
            refine ⟨numL_lost a.2 hlb, ?_⟩
            rcases numL_le (loseL s.A fr a.1 a.2) a.1 with h | ⟨y, k1, k2, k3, _⟩
            · exact .inl h
            · exact .inr ⟨y, k1, k2, k3⟩
        · exact ⟨(hT x hx).1, hkeep x (hT x hx).2⟩)
      exact ⟨(h1.trans h2.1).up (by omega), h2.2⟩
    · have h2 := ih hK' s b T hT
      exact ⟨h2.1.up (by omega), h2.2⟩
theorem prs_hearLose (s : St) (fr : Int) (p : Pkt) (L : List (Int × Int)) : Prs (some (fr, p, L)) (L.length + 2) s (s.hearLose fr L) := by
  unfold St.hearLose
  dsimp only
  obtain ⟨h1, h2'⟩ := prs_losses fr p L L (fun _ h => h) s false [] (fun x hx => by cases hx)
  have h2 : ∀ x ∈ (L.foldl (St.lsS fr) (s.A, false, [])).2.2, x.2 = 0 ∨ ∃ y ∈ (L.foldl (St.lsS fr) (s.A, false, [])).1, y.dest = x.1 ∧ x.2 ≤ y.seq ∧ (0 ≤ x.2 ∨ x.2 = y.seq) := fun x hx => by
    obtain ⟨k0, k⟩ := h2' x hx
    rcases k with k | ⟨y, k1, k2, k3⟩
    · exact .inl k
    · exact .inr ⟨y, k1, k2, k3, .inl k0⟩
  split
  · exact (h1.trans (prs_lose _ _ _ _ h2)).up (by omega)
  · exact (h1.trans ((prs_drop _ _ 7).trans (prs_lose _ _ _ _ h2))).up (by omega)
end Go.Proofs.YtakaadcpaeiccabGreat

namespace Go.Proofs.YtakaadcpaeiccabGreat

/-! A mesh as plain data, and what it does. -/
/-- What a node does in one call. -/
structure Ot where
  nws : List (Bool × Int × Int)
  rep : Bool
  frs : List (Int × ByteArray)
  cms : List (Int × ByteArray)
  drs : List Int
def St.ot (s : St) : Ot := ⟨s.nws, s.rep, s.frs, s.cms, s.drs⟩
def Ot.none : Ot := ⟨[], false, [], [], []⟩
/-- It does nothing. -/
def Ot.idle (o : Ot) : Bool := o.nws.isEmpty && !o.rep && o.frs.isEmpty && o.cms.isEmpty && o.drs.isEmpty
/-- A node's place in a mesh. -/
structure Stn where
  addr : Int
  jrn : List Int
  nd : Option St
  hrs : List Bool
  tears : Bool
  whole : Int
def Stn.stop (s : Stn) : Stn := { s with nd := none, tears := false, whole := 0 }
def Stn.write (s : Stn) (o : Ot) : Stn × Bool :=
  if o.nws.isEmpty && !o.rep then (s, true)
  else if s.tears then ({ s with jrn := if o.rep then s.jrn else s.jrn ++ (flatR o.nws).take s.whole.toNat }.stop, false)
  else ({ s with jrn := (if o.rep then [] else s.jrn) ++ flatR o.nws }, true)
def Stn.zero : Stn := ⟨0, [], none, [], false, 0⟩
/-- A mesh. -/
structure Msh where
  now : Int
  S : List Stn
  air : List (Nat × Nat × ByteArray)
/-- What happens: at which node; an error; what it does. -/
structure Ev where
  node : Int
  err : Int
  o : Ot

namespace Msh
def at' (m : Msh) (i : Nat) : Stn := m.S.getD i Stn.zero
def put (m : Msh) (i : Nat) (s : Stn) : Msh := { m with S := m.S.set i s }
def launch (m : Msh) (f : Nat × Nat × ByteArray) : Msh := { m with air := if 48 < (m.air ++ [f]).length then (m.air ++ [f]).tail else m.air ++ [f] }
/-- Who hears a frame of node i. -/
def heard (m : Msh) (i : Nat) (t : Int) : List Nat := (List.range m.S.length).filter fun j => (m.at' i).hrs.getD j false && (decide (t = 0) || decide (t = (m.at' j).addr))
def sendF (m : Msh) (i : Nat) (f : Int × ByteArray) : Msh := (m.heard i f.1).foldl (fun m j => m.launch (i, j, f.2)) m
/-- Node i does something; φ: one frame goes out. -/
def didW (φ : Msh → Int × ByteArray → Msh × List Ev) (m : Msh) (i : Nat) (o : Ot) : Msh × List Ev :=
  if o.idle then (m, [])
  else if ((m.at' i).write o).2 then o.frs.foldl (fun z f => ((φ z.1 f).1, z.2 ++ (φ z.1 f).2)) (m.put i ((m.at' i).write o).1, [⟨i, 0, o⟩])
  else (m.put i ((m.at' i).write o).1, [⟨i, 0, Ot.none⟩])
def out0 (i : Nat) (m : Msh) (f : Int × ByteArray) : Msh × List Ev := (m.sendF i f, [])
/-- What a node does that is told 'Broken': all its frames go to all. -/
def didB (m : Msh) (i : Nat) (o : Ot) : Msh × List Ev := didW (out0 i) m i o
/-- One frame goes out. -/
def out1 (i : Nat) (m : Msh) (f : Int × ByteArray) : Msh × List Ev :=
  if m.heard i f.1 ≠ [] ∨ f.1 = 0 then (m.sendF i f, [])
  else match ((m.sendF i f).at' i).nd with
    | none => (m.sendF i f, [])
    | some s => ((m.sendF i f).put i { (m.sendF i f).at' i with nd := some (s.brk m.now f.1) }).didB i (s.brk m.now f.1).ot
def did (m : Msh) (i : Nat) (o : Ot) : Msh × List Ev := didW (out1 i) m i o
/-- Node i is in a new state, and does something. -/
def act (m : Msh) (i : Nat) (s : St) : Msh × List Ev := (m.put i { m.at' i with nd := some s }).did i s.ot
def hear (m : Msh) (i j : Nat) (b : ByteArray) : Msh × List Ev :=
  match (m.at' i).nd with
  | none => (m, [])
  | some s => m.act i (s.rcv m.now (m.at' j).addr (strNums b))
def tick1 (z : Msh × List Ev) (i : Nat) : Msh × List Ev :=
  match (z.1.at' i).nd with
  | none => z
  | some s => ((z.1.act i (s.tck z.1.now)).1, z.2 ++ (z.1.act i (s.tck z.1.now)).2)
def tick (m : Msh) (n : Int) : Msh × List Ev :=
  if n < 1 ∨ n > 60000 then (m, []) else (List.range m.S.length).foldl tick1 ({ m with now := m.now + n }, [])
def link (m : Msh) (a b : Nat) (on : Bool) : Msh :=
  if a = b then m else
    let m := m.put a { m.at' a with hrs := (m.at' a).hrs.set b on }
    m.put b { m.at' b with hrs := (m.at' b).hrs.set a on }
def send (m : Msh) (a b : Nat) (t : ByteArray) : Msh × List Ev :=
  match (m.at' a).nd with
  | none => (m, [])
  | some s =>
    if t.size > 16 then (m, [⟨a, 6, Ot.none⟩])
    else if (m.at' b).addr = s.me ∨ (m.at' b).addr = 0 then (m, [⟨a, 2, Ot.none⟩])
    else m.act a (s.snd m.now (m.at' b).addr t)
def boot (m : Msh) (a : Nat) : Msh × List Ev := m.act a (St.new (m.at' a).addr (m.at' a).jrn m.now)
def has (m : Msh) (i : Int) : Bool := decide (0 ≤ i) && decide (i < m.S.length)
def runs (m : Msh) (i : Int) : Bool := m.has i && (m.at' i.toNat).nd.isSome
end Msh
/-- A step of a script. -/
structure Op where
  dow : Int
  a : Int
  b : Int
  n : Int
  on : Bool
  txt : ByteArray
namespace Msh
def may (m : Msh) (op : Op) : Bool :=
  if op.dow = 1 then m.has op.a && m.has op.b
  else if op.dow = 2 ∨ op.dow = 8 then m.runs op.a && m.has op.b
  else if op.dow = 9 ∨ op.dow = 10 then m.runs op.a
  else if op.dow = 11 then m.has op.a && !m.runs op.a
  else true
def flight (m : Msh) (op : Op) : Msh × List Ev :=
  if op.a < 0 ∨ m.air.length = 0 then (m, [])
  else
    let k := op.a.toNat % m.air.length
    let f := m.air.getD k (0, 0, ⟨#[]⟩)
    if op.dow = 4 then { m with air := m.air.eraseIdx k }.hear f.2.1 f.1 f.2.2
    else if op.dow = 5 then ({ m with air := m.air.eraseIdx k }, [])
    else if op.dow = 6 then (m.launch f, [])
    else ({ m with air := m.air.set k (f.1, f.2.1, f.2.2.extract 0 (f.2.2.size - (min (max 0 op.n) f.2.2.size).toNat)) }, [])
/-- A step. -/
def step (m : Msh) (op : Op) : Msh × List Ev :=
  if !m.may op then (m, [⟨0, 5, Ot.none⟩])
  else if op.dow = 1 then (m.link op.a.toNat op.b.toNat op.on, [])
  else if op.dow = 2 then m.send op.a.toNat op.b.toNat op.txt
  else if op.dow = 3 then m.tick op.n
  else if op.dow = 4 ∨ op.dow = 5 ∨ op.dow = 6 ∨ op.dow = 7 then m.flight op
  else if op.dow = 8 then m.hear op.a.toNat op.b.toNat op.txt
  else if op.dow = 9 then (m.put op.a.toNat (m.at' op.a.toNat).stop, [])
  else if op.dow = 10 then (m.put op.a.toNat { m.at' op.a.toNat with tears := true, whole := max 0 op.n }, [])
  else if op.dow = 11 then m.boot op.a.toNat
  else (m, [])
/-- A mesh of nodes with these addresses. -/
def new (L : List Int) : Msh := ⟨0, L.map fun a => ⟨a, flatR (St.new a [] 0).nws, some (St.new a [] 0), List.replicate 6 false, false, 0⟩, []⟩
/-- Its table. -/
def tab (m : Msh) (i : Nat) : List Rt := match (m.at' i).nd with | none => [] | some s => s.A
end Msh
end Go.Proofs.YtakaadcpaeiccabGreat
