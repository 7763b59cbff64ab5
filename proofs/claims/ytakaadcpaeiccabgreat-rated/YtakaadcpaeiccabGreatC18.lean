import Derived.Test.YtakaadcpaeiccabGreatC17
import Derived.Test.YtakaadcpaeiccabGreatC15
namespace Go.Proofs.YtakaadcpaeiccabGreat

/-! A node as plain data, and what it does. -/

/-- What a node remembers of a request. -/
structure Mm where
  fr : Int
  id : Int
  til : Int
  trn : Int
def Mm.key (e : Mm) : Int × Int := (e.fr, e.id)
def seenHas (E : List Mm) (q : Int × Int) (now : Int) : Bool := E.any fun e => decide (e.key = q) && decide (now < e.til)
def seenPut (E : List Mm) (q : Int × Int) (til trn : Int) : List Mm := E.filter (fun e => !decide (e.key = q)) ++ [⟨q.1, q.2, til, trn⟩]
def seenAdd (E : List Mm) (q : Int × Int) (til trn : Int) : List Mm := if 16 < (seenPut E q til trn).length then (seenPut E q til trn).tail else seenPut E q til trn

/-- A search: 'out': its request went out. -/
structure Sr where
  dest : Int
  txt : List ByteArray
  ttl : Int
  ret : Nat
  due : Int
  id : Int
  out : Bool

/-- A node, and what it does in one call. -/
structure St where
  me : Int
  seq : Int
  sil : Int
  lreq : Int
  ldat : Int
  A : List Rt
  mem : List Mm
  tn : Int
  f : Int → Option Int
  own : Int
  cnt : Int
  Q : List Sr
  tl : Int
  pc : List Int
  now : Int
  nws : List (Bool × Int × Int)
  frs : List (Int × ByteArray)
  cms : List (Int × ByteArray)
  drs : List Int
  rep : Bool
  lk : Int

namespace St
def write (s : St) : St := { s with f := (newsP s.seq s.own s.f s.A).1, own := mxO s.seq s.own, cnt := s.cnt + (newsP s.seq s.own s.f s.A).2.length, nws := s.nws ++ (newsP s.seq s.own s.f s.A).2 }
def drop (s : St) (r : Int) : St := { s with drs := s.drs ++ [r] }
def send (s : St) (t : Int) (p : Pkt) (L : List (Int × Int)) : St := { s with frs := s.frs ++ [(t, strOfNums (encX p L))] }
def lose (s : St) (t : Int) (L : List (Int × Int)) : St := { s with frs := s.frs ++ lsF t L }
def begin (s : St) (now : Int) : St := { s with now := now, A := expL s.A now, nws := [], frs := [], cms := [], drs := [], rep := false }.write
/-- The compact journal. -/
def cmp (s : St) : List (Bool × Int × Int) := ownP (some s.own) ++ othP s.f (s.A.map (·.dest))
def finish (s : St) : St :=
  if s.write.cnt > 24 then { s.write with nws := s.write.cmp, cnt := s.write.cmp.length, rep := true } else s.write
/-- What comes out as the journal. -/
def jrn (s : St) : ByteArray := strOfNums (flatR s.nws)

def far (h : Int) : Int := min (h + 1) 255
/-- A reply to who asked. -/
def answer (s : St) (p : Pkt) : St :=
  if (findL s.A p.frm s.now).2 then s.send (findL s.A p.frm s.now).1.next { p with ttl := 8, kind := 2 } [] else s.drop 3
def repP (hops d q fm life : Int) : Pkt := ⟨0, 0, hops, false, 0, d, q, fm, 0, life, none, 0, 0, ⟨#[]⟩⟩
def answerSelf (s : St) (p : Pkt) : St := { s with seq := max s.seq p.dseq }.answer (repP 0 s.me (max s.seq p.dseq) p.frm 6000)
def answerOther (s : St) (p : Pkt) (r : Rt) : St :=
  { s with A := befL (if (findL s.A p.frm s.now).2 then befL s.A p.dest (findL s.A p.frm s.now).1.next else s.A) p.frm r.next }.answer (repP r.hops p.dest r.seq p.frm ((r.exp - s.now) % 4294967296))
def askOn (s : St) (p : Pkt) : St :=
  s.send 0 { p with ttl := p.ttl - 1, hops := far p.hops, dseq := if (lineOf s.A p.dest).isSome then max p.dseq (numL s.A p.dest) else p.dseq, unk := if (lineOf s.A p.dest).isSome then false else p.unk } []
def asked (s : St) (p : Pkt) : St :=
  if p.dest = s.me then s.answerSelf p
  else if (findL s.A p.dest s.now).2 && (p.unk || decide ((findL s.A p.dest s.now).1.seq ≥ p.dseq)) then s.answerOther p (findL s.A p.dest s.now).1
  else if p.ttl = 1 then s.drop 4 else s.askOn p
def datP (i d me : Int) (t : ByteArray) : Pkt := ⟨8, 9, 0, false, i, d, 0, me, 0, 0, none, 0, 0, t⟩
/-- A text of one's own goes out, if there is a route. -/
def sendText (s : St) (d : Int) (t : ByteArray) : St :=
  if (findL s.A d s.now).2 then { s with ldat := (s.ldat + 1) % 4294967296, A := useL s.A d (s.now + 3000) }.send (findL s.A d s.now).1.next (datP ((s.ldat + 1) % 4294967296) d s.me t) []
  else s
def srOf (Q : List Sr) (d : Int) : Option Sr := Q.find? fun q => decide (q.dest = d)
/-- All that waits goes out, if there is a route. -/
def sendAll (s : St) (d : Int) : St :=
  match srOf s.Q d with
  | none => s
  | some q => if (findL s.A d s.now).2 then { q.txt.foldl (fun s t => s.sendText d t) s with Q := s.Q.filter fun z => !decide (z.dest = d) } else s

def broken (s : St) (now nxt : Int) : St :=
  let s := s.begin now
  ({ s with A := s.A.map (loseF nxt 0) }.lose 0 (brkL nxt s.A)).finish

/-- Whether a request may not go out, and why. -/
def full (pc : List Int) (now : Int) : Bool := decide (pc.length = 5) && (decide (now < 1000) || decide (pc.getD 0 0 > now - 1000))
def pcAdd (pc : List Int) (now : Int) : List Int := (if pc.length = 5 then pc.tail else pc) ++ [now]
def reqP (ttl : Int) (unk : Bool) (i d q me sq : Int) : Pkt := ⟨ttl, 1, 0, unk, i, d, q, me, sq, 0, none, 0, 0, ⟨#[]⟩⟩
/-- A request goes out. -/
def request (s : St) (d ttl : Int) : St :=
  let s1 := { s with seq := gr s.seq, lreq := (s.lreq + 1) % 4294967296 }.write
  { s1 with pc := pcAdd s1.pc s1.now, mem := seenAdd s1.mem (s1.me, s1.lreq) (s1.now + 1280) s1.tn, tn := s1.tn + 1 }.send 0 (reqP ttl (!(lineOf s1.A d).isSome) s1.lreq d (numL s1.A d) s1.me s1.seq) []
/-- A search put in its place. -/
def setQ (Q : List Sr) (q : Sr) : List Sr := Q.map fun z => if z.dest = q.dest then q else z
def ask (s : St) (q : Sr) : St :=
  if full s.pc s.now then let s := s.drop 9; { s with tl := s.tl + 1, Q := setQ s.Q { q with due := s.now + 1000, id := s.tl + 1, out := false } }
  else if s.now < s.sil then let s := s.drop 8; { s with tl := s.tl + 1, Q := setQ s.Q { q with due := s.now + 1000, id := s.tl + 1, out := false } }
  else let s := s.request q.dest q.ttl; { s with tl := s.tl + 1, Q := setQ s.Q { q with due := s.now + 80 * (q.ttl + 2) * 2 ^ q.ret, id := s.tl + 1, out := true } }
def newQ (d : Int) (t : ByteArray) : Sr := ⟨d, [t], 1, 0, 0, 0, false⟩
/-- A text waits. -/
def hold (s : St) (q : Sr) (t : ByteArray) : St × Sr :=
  if q.txt.length = 4 then (s.drop 6, { q with txt := q.txt.tail ++ [t] }) else (s, { q with txt := q.txt ++ [t] })
def await (s : St) (d : Int) (t : ByteArray) : St :=
  match srOf s.Q d with
  | some q => { (s.hold q t).1 with Q := setQ s.Q (s.hold q t).2 }
  | none => { s with Q := s.Q ++ [newQ d t] }.ask (newQ d t)
/-- 'Send' where it isn't refused. -/
def sends (s : St) (now d : Int) (t : ByteArray) : St :=
  let s := s.begin now
  (if (findL s.A d s.now).2 then s.sendText d t else s.await d t).finish
def endQ (s : St) (d : Int) : St := { s with Q := s.Q.filter fun z => !decide (z.dest = d) }
def widen (s : St) (q : Sr) : St :=
  if q.ttl + 2 ≤ 5 then s.ask { q with ttl := q.ttl + 2 }
  else if q.ttl < 8 then s.ask { q with ttl := 8 }
  else if q.ret < 2 then s.ask { q with ret := q.ret + 1 }
  else { s with drs := s.drs ++ List.replicate q.txt.length 5 }.endQ q.dest
/-- The time of a search has come. -/
def step (s : St) (q : Sr) : St :=
  if (findL s.A q.dest s.now).2 then s.sendAll q.dest
  else if q.out then s.widen q else s.ask q
/-- Those whose time has come, in the order of the times. -/
def ordQ (a b : Sr) : Bool := decide (a.due < b.due) || (decide (a.due = b.due) && decide (a.id ≤ b.id))
def dueQ (Q : List Sr) (now : Int) : List Sr := (Q.filter fun q => decide (q.due ≤ now)).mergeSort ordQ
def tick (s : St) (now : Int) : St :=
  let s := s.begin now
  ((dueQ s.Q now).foldl step s).finish
end St
end Go.Proofs.YtakaadcpaeiccabGreat

namespace Go.Proofs.YtakaadcpaeiccabGreat
open Go.RowKit Go.Maps

/-- What a node remembers, in memory. -/
structure SnM (Ms : Nat) (tn : Int) (E : List Mm) (W : World) : Prop where
  map : ∃ g, MapQ W Ms g E.length ∧ (∀ e ∈ E, g e.key = some (e.til, e.trn)) ∧ ∀ k m, QOk k → g k = some m → ∃ e ∈ E, e.key = k ∧ m = (e.til, e.trn)
  ok : ∀ e ∈ E, QOk e.key ∧ 0 ≤ e.til ∧ 0 ≤ e.trn ∧ e.trn < tn
  asc : E.Pairwise fun a b => a.til ≤ b.til ∧ a.trn < b.trn ∧ a.key ≠ b.key
  len : E.length ≤ 16
  tn0 : 0 ≤ tn
theorem SnM.block {Ms : Nat} {tn : Int} {E : List Mm} {W W' : World} (h : SnM Ms tn E W) (he : W'.heap[Ms]? = W.heap[Ms]?) : SnM Ms tn E W' := by
  obtain ⟨⟨g, h1, h2, h3⟩, h4, h5, h6, h7⟩ := h
  exact ⟨⟨g, h1.block he, h2, h3⟩, h4, h5, h6, h7⟩
theorem SnM.lt {Ms : Nat} {tn : Int} {E : List Mm} {W : World} (h : SnM Ms tn E W) : Ms < W.heap.size := by
  obtain ⟨g, h1, _⟩ := h.map
  exact h1.lt
theorem SnM.obj {Ms : Nat} {tn : Int} {E : List Mm} {W : World} (h : SnM Ms tn E W) : ∃ es cl, W.heap[Ms]? = some (.map es cl) := by
  obtain ⟨g, h1, _⟩ := h.map
  exact h1.obj
theorem SnM.made (w : World) : SnM w.heap.size 0 [] (w.alloc (.map #[] 0)) :=
  ⟨⟨_, MapQ.made w, fun e he => by simp at he, fun k m _ h => by cases h⟩, fun e he => by simp at he, List.Pairwise.nil, by simp, by simp⟩
/-- What the map answers. -/
theorem SnM.has_eq {Ms : Nat} {tn : Int} {E : List Mm} {W : World} {g : Int × Int → Option (Int × Int)} (_h : SnM Ms tn E W) (h2 : ∀ e ∈ E, g e.key = some (e.til, e.trn)) (h3 : ∀ k m, QOk k → g k = some m → ∃ e ∈ E, e.key = k ∧ m = (e.til, e.trn)) {q : Int × Int} (hq : QOk q) {now : Int} (hn : 0 ≤ now) :
    decide (now < ((g q).getD (0, 0)).1) = seenHas E q now := by
  unfold seenHas
  cases hg : g q with
  | none =>
    simp only [Option.getD_none]
    rw [decide_eq_false (by omega)]
    symm
    rw [List.any_eq_false]
    intro e he hc
    simp only [Bool.and_eq_true, decide_eq_true_eq] at hc
    have := h2 e he
    rw [hc.1, hg] at this
    cases this
  | some m =>
    obtain ⟨e, he, hk, rfl⟩ := h3 q m hq hg
    simp only [Option.getD_some]
    by_cases hlt : now < e.til
    · rw [decide_eq_true hlt]
      symm
      rw [List.any_eq_true]
      exact ⟨e, he, by simp [hk, hlt]⟩
    · rw [decide_eq_false hlt]
      symm
      rw [List.any_eq_false]
      intro e' he' hc
      simp only [Bool.and_eq_true, decide_eq_true_eq] at hc
      have h4 := h2 e' he'
      rw [hc.1, hg] at h4
      simp only [Option.some.injEq, Prod.mk.injEq] at h4
      omega

@[reducible] def qBox (q : Int × Int) : Obj := .cells #[.int .u32 q.1, .int .u32 q.2] 261
@[reducible] def mBox (m : Int × Int) : Obj := .cells #[.int .u64 m.1, .int .i64 m.2] 279
set_option maxRecDepth 100000 in
set_option maxHeartbeats 1000000 in
theorem mahead_any (a b : Int × Int) (w : World) :
    Calls Tryz.prog 196 #[encM a, encM b] w fun e w' => e = .returned (.bool (if a.1 = b.1 then decide (a.2 < b.2) else decide (a.1 < b.1))) ∧ Below w.heap.size w w' := by
  obtain ⟨a1, a2⟩ := a
  obtain ⟨b1, b2⟩ := b
  have hB : Below w.heap.size w ((w.alloc (mBox (a1, a2))).alloc (mBox (b1, b2))) := ((Below.refl _ _).alloc (Nat.le_refl _) _).alloc (by simp) _
  dsimp only [mBox] at hB
  dsimp only [encM]
  by_cases h : a1 = b1
  · subst h
    have e : (a1 != a1) = false := by simp
    rw [if_pos rfl]
    go_enter Tryz.func196, Tryz.ntmps196
    go_wp2
    all_goals (go_ret; exact ⟨rfl, hB⟩)
  · have e : (a1 != b1) = true := by simpa using h
    rw [if_neg h]
    go_enter Tryz.func196, Tryz.ntmps196
    go_wp2
    all_goals (go_ret; exact ⟨rfl, hB⟩)

def aheadM (a b : Mm) : Prop := if a.til = b.til then a.trn < b.trn else a.til < b.til
/-- What is known of the least one among those that the walk has met. -/
def FirI (E : List Mm) (left : Lit → Bool) (an : Bool) (f l : Int × Int) : Prop :=
  if an then ∃ e ∈ E, left (qLit e.key) = false ∧ f = e.key ∧ l = (e.til, e.trn) ∧ ∀ z ∈ E, left (qLit z.key) = false → ¬ aheadM z e
  else ∀ e ∈ E, left (qLit e.key) = true
theorem FirI.done {e0 : Mm} {E : List Mm} {left : Lit → Bool} {an : Bool} {f l : Int × Int} (h : FirI (e0 :: E) left an f l) (hl : ∀ kl, left kl = false) (ha : (e0 :: E).Pairwise fun a b => a.til ≤ b.til ∧ a.trn < b.trn ∧ a.key ≠ b.key) : f = e0.key := by
  unfold FirI at h
  split at h
  · obtain ⟨e, he, _, rfl, _, h⟩ := h
    rcases List.mem_cons.1 he with rfl | he
    · rfl
    · exfalso
      refine h e0 (List.mem_cons_self ..) (hl _) ?_
      have := (List.pairwise_cons.1 ha).1 e he
      unfold aheadM
      split <;> omega
  · have := h e0 (List.mem_cons_self ..)
    rw [hl] at this
    cases this
theorem FirI.yes {E : List Mm} (hE : ∀ e ∈ E, QOk e.key) (hu : E.Pairwise fun a b => a.til ≤ b.til ∧ a.trn < b.trn ∧ a.key ≠ b.key) {left : Lit → Bool} {an : Bool} {f l : Int × Int} (h : FirI E left an f l) {e : Mm} (he : e ∈ E) (hq : left (qLit e.key) = true) (hb : an = true → (if e.til = l.1 then e.trn < l.2 else e.til < l.1)) :
    FirI E (fun z => left z && !z.sameKey (qLit e.key)) true e.key (e.til, e.trn) := by
  have hkey : ∀ z ∈ E, qLit z.key = qLit e.key → z = e := by
    intro z hz hq
    have hk := qLit_inj (hE z hz) (hE e he) hq
    by_cases hze : z = e
    · exact hze
    · exfalso
      obtain ⟨i, hi, rfl⟩ := List.mem_iff_getElem.1 hz
      obtain ⟨j, hj, rfl⟩ := List.mem_iff_getElem.1 he
      rcases Nat.lt_trichotomy i j with hij | hij | hij
      · exact (List.pairwise_iff_getElem.1 hu i j hi hj hij).2.2 hk
      · subst hij; exact hze rfl
      · exact (List.pairwise_iff_getElem.1 hu j i hj hi hij).2.2 hk.symm
  unfold FirI at h ⊢
  rw [if_pos rfl]
  refine ⟨e, he, by simp [qLit, Lit.sameKey], rfl, rfl, fun z hz hl => ?_⟩
  by_cases hze : qLit z.key = qLit e.key
  · rw [hkey z hz hze]
    unfold aheadM
    simp
  · have hlz : left (qLit z.key) = false := by
      cases hc : left (qLit z.key) with
      | false => rfl
      | true =>
        exfalso
        dsimp only at hl
        rw [hc, Bool.true_and] at hl
        have : (qLit z.key).sameKey (qLit e.key) = true := by simpa using hl
        exact hze (by simpa [qLit, Lit.sameKey] using this)
    cases han : an with
    | false =>
      rw [han] at h
      have := h z hz
      rw [hlz] at this
      cases this
    | true =>
      rw [han, if_pos rfl] at h
      obtain ⟨e1, he1, _, _, rfl, h⟩ := h
      have h1 := h z hz hlz
      have h2 := hb han
      unfold aheadM at h1 ⊢
      dsimp only at h2
      intro h3
      apply h1
      split at h3 <;> split at h2 <;> split <;> omega
theorem FirI.no {E : List Mm} (hE : ∀ e ∈ E, QOk e.key) (hu : E.Pairwise fun a b => a.til ≤ b.til ∧ a.trn < b.trn ∧ a.key ≠ b.key) {left : Lit → Bool} {f l : Int × Int} (h : FirI E left true f l) {e : Mm} (he : e ∈ E) (hb : ¬ (if e.til = l.1 then e.trn < l.2 else e.til < l.1)) :
    FirI E (fun z => left z && !z.sameKey (qLit e.key)) true f l := by
  unfold FirI at h ⊢
  rw [if_pos rfl] at h ⊢
  obtain ⟨e1, he1, hl1, rfl, rfl, h⟩ := h
  refine ⟨e1, he1, by simp [hl1], rfl, rfl, fun z hz hl => ?_⟩
  by_cases hlz : left (qLit z.key) = false
  · exact h z hz hlz
  · have hc : left (qLit z.key) = true := by simpa using hlz
    dsimp only at hl
    rw [hc, Bool.true_and] at hl
    have : (qLit z.key).sameKey (qLit e.key) = true := by simpa using hl
    have hk := qLit_inj (hE z hz) (hE e he) (by simpa [qLit, Lit.sameKey] using this)
    have hze : z = e := by
      by_cases hze : z = e
      · exact hze
      · exfalso
        obtain ⟨i, hi, rfl⟩ := List.mem_iff_getElem.1 hz
        obtain ⟨j, hj, rfl⟩ := List.mem_iff_getElem.1 he
        rcases Nat.lt_trichotomy i j with hij | hij | hij
        · exact (List.pairwise_iff_getElem.1 hu i j hi hj hij).2.2 hk
        · subst hij; exact hze rfl
        · exact (List.pairwise_iff_getElem.1 hu j i hj hi hij).2.2 hk.symm
    rw [hze]
    unfold aheadM
    exact hb
end Go.Proofs.YtakaadcpaeiccabGreat

namespace Go.Proofs.YtakaadcpaeiccabGreat
open Go.RowKit Go.Maps

theorem some_lt' {W : World} {k : Nat} {o : Obj} (h : W.heap[k]? = some o) : k < W.heap.size := (Array.getElem?_eq_some_iff.1 h).1
theorem memR_shape {v : Value} {y : DataW Unit × List MemPlace} (h : memR v = some y) : ∃ c, v = encM c := by
  obtain ⟨m, h1, _⟩ := memR_inv h
  exact ⟨m, h1⟩
theorem encQ_inj {a b : Int × Int} (h : encQ a = encQ b) : a = b := by
  unfold encQ at h
  simp only [Value.agg.injEq, Array.mk.injEq, List.cons.injEq, Value.int.injEq, true_and, and_true] at h
  exact Prod.ext h.1 h.2
def QB (B : Nat) (q : Int × Int) (W : World) : Prop := W.heap[B]? = some (qBox q)
def MmB (B : Nat) (m : Int × Int) (W : World) : Prop := W.heap[B]? = some (mBox m)

theorem QB.cell {B : Nat} {q : Int × Int} {W : World} (h : QB B q W) : W.cell? ⟨B, 0, none⟩ = some (.int .u32 q.1) ∧ W.cell? ⟨B, 1, none⟩ = some (.int .u32 q.2) := ⟨cell_of_row _ _ 0 _ _ _ h, cell_of_row _ _ 1 _ _ _ h⟩
theorem QB.free {B : Nat} {q : Int × Int} {W : World} (h : QB B q W) (i : Nat) : W.frozen? ⟨B, i, none⟩ = false := by
  unfold World.frozen?
  rw [show W.heap[(⟨B, i, none⟩ : Addr).block]? = some (qBox q) from h]
  try rfl
theorem MmB.cell {B : Nat} {q : Int × Int} {W : World} (h : MmB B q W) : W.cell? ⟨B, 0, none⟩ = some (.int .u64 q.1) ∧ W.cell? ⟨B, 1, none⟩ = some (.int .i64 q.2) := ⟨cell_of_row _ _ 0 _ _ _ h, cell_of_row _ _ 1 _ _ _ h⟩
theorem MmB.free {B : Nat} {q : Int × Int} {W : World} (h : MmB B q W) (i : Nat) : W.frozen? ⟨B, i, none⟩ = false := by
  unfold World.frozen?
  rw [show W.heap[(⟨B, i, none⟩ : Addr).block]? = some (mBox q) from h]
  try rfl
theorem QB.set {B : Nat} {q : Int × Int} {W : World} (h : QB B q W) (p : Int × Int) : QB B p ((W.setCell ⟨B, 0, none⟩ (.int .u32 p.1)).setCell ⟨B, 1, none⟩ (.int .u32 p.2)) := by
  unfold QB at h ⊢
  simp [World.setCell, Array.getElem?_modify, h]
theorem MmB.set {B : Nat} {q : Int × Int} {W : World} (h : MmB B q W) (p : Int × Int) : MmB B p ((W.setCell ⟨B, 0, none⟩ (.int .u64 p.1)).setCell ⟨B, 1, none⟩ (.int .i64 p.2)) := by
  unfold MmB at h ⊢
  simp [World.setCell, Array.getElem?_modify, h]
theorem ranges_below {H : Type} {P : Program} {k : TypeId} {R : Value → Option (DataW H × List MemPlace)} {b r n : Nat} {D : DataW H} {left : Lit → Bool} {cnt : Nat} {W W' : World} (h : W.ranges P k R b r n D left cnt) (hb : Below W.heap.size W W') : W'.ranges P k R b r n D left cnt :=
  h.kept (row := none) ⟨hb.os, hb.tape, hb.output, hb.size, fun i hi _ => hb.block i hi⟩ (by simp) (by simp)
/-- What holds at the head of a round of 'first'. -/
structure FirR (Ms r n w0 : Nat) (D : DataW Unit) (E : List Mm) (wb : World) (left : Lit → Bool) (cnt : Nat) (an : Bool) (f l : Int × Int) (W : World) : Prop where
  rg : W.ranges Tryz.prog 261 memR Ms r n D left cnt
  fi : FirI E left an f l
  r0 : QB w0 (0, 0) W
  f0 : QB (w0 + 1) f W
  l0 : MmB (w0 + 2) l W
  be : Below w0 wb W
  sz : w0 + 4 ≤ W.heap.size
theorem FirR.later {Ms r n w0 : Nat} {D : DataW Unit} {E : List Mm} {wb : World} {left : Lit → Bool} {cnt : Nat} {an : Bool} {f l : Int × Int} {W W' : World} (h : FirR Ms r n w0 D E wb left cnt an f l W) (hb : Below W.heap.size W W') : FirR Ms r n w0 D E wb left cnt an f l W' := by
  have := h.sz
  have := hb.size
  exact ⟨ranges_below h.rg hb, h.fi, (hb.block _ (by omega)).trans h.r0, (hb.block _ (by omega)).trans h.f0, (hb.block _ (by omega)).trans h.l0, h.be.trans (hb.mono (by omega)), by omega⟩

theorem FirR.put {Ms r n w0 : Nat} {D : DataW Unit} {E : List Mm} {wb : World} {left : Lit → Bool} {cnt : Nat} {f l : Int × Int} {W : World} (rg : W.ranges Tryz.prog 261 memR Ms r n D left cnt) (r0 : QB w0 (0, 0) W) (f0 : QB (w0 + 1) f W) (l0 : MmB (w0 + 2) l W) (be : Below w0 wb W) (sz : w0 + 4 ≤ W.heap.size) (hr : r = w0 + 3) (hM : Ms < w0) {p m : Int × Int} (fi : FirI E left true p m) :
    FirR Ms r n w0 D E wb left cnt true p m ((((W.setCell ⟨w0 + 1, 0, none⟩ (.int .u32 p.1)).setCell ⟨w0 + 1, 1, none⟩ (.int .u32 p.2)).setCell ⟨w0 + 1 + 1, 0, none⟩ (.int .u64 m.1)).setCell ⟨w0 + 1 + 1, 1, none⟩ (.int .i64 m.2)).drew := by
  have hg1 : W.grownBy ((W.setCell ⟨w0 + 1, 0, none⟩ (.int .u32 p.1)).setCell ⟨w0 + 1, 1, none⟩ (.int .u32 p.2)) (some (w0 + 1)) := grown_cellOf (grown_cellOf (grown_self _ (some (w0 + 1))) 0 _) 1 _
  have hf1 := f0.set p
  have hr1 := rg.kept hg1 (by simp; omega) (by simp; omega)
  have h01 : QB w0 (0, 0) _ := (hg1.block w0 (by omega) (by simp)).trans r0
  have hl1 : MmB (w0 + 2) l _ := (hg1.block (w0 + 2) (by omega) (by simp)).trans l0
  have hb1 := be.grown hg1 (by omega) (fun k e => by cases e; omega)
  have hs1 := hg1.size
  generalize ((W.setCell ⟨w0 + 1, 0, none⟩ (.int .u32 p.1)).setCell ⟨w0 + 1, 1, none⟩ (.int .u32 p.2)) = W1 at hf1 hr1 h01 hl1 hb1 hs1 ⊢
  have hg2 : W1.grownBy ((W1.setCell ⟨w0 + 1 + 1, 0, none⟩ (.int .u64 m.1)).setCell ⟨w0 + 1 + 1, 1, none⟩ (.int .i64 m.2)) (some (w0 + 1 + 1)) := grown_cellOf (grown_cellOf (grown_self _ (some (w0 + 1 + 1))) 0 _) 1 _
  have hl2 := hl1.set m
  have hr2 := hr1.kept hg2 (by simp; omega) (by simp; omega)
  have h02 : QB w0 (0, 0) _ := (hg2.block w0 (by omega) (by simp; omega)).trans h01
  have hf2 : QB (w0 + 1) p _ := (hg2.block (w0 + 1) (by omega) (by simp)).trans hf1
  have hb2 := hb1.grown hg2 (by omega) (fun k e => by cases e; omega)
  have hs2 := hg2.size
  exact ⟨hr2, fi, h02, hf2, hl2, hb2.drew, Nat.le_trans sz (Nat.le_trans hs1 hs2)⟩

set_option maxRecDepth 100000 in
set_option maxHeartbeats 4000000 in
theorem first_any17 (N : Nat) (x : NdV) (e0 : Mm) (E : List Mm) (w : World) (hN : NdB N x w) (hs : ∃ g, MapQ w x.Ms g (e0 :: E).length ∧ (∀ e ∈ e0 :: E, g e.key = some (e.til, e.trn)) ∧ ∀ k m, QOk k → g k = some m → ∃ e ∈ e0 :: E, e.key = k ∧ m = (e.til, e.trn)) (hok : ∀ e ∈ e0 :: E, QOk e.key ∧ 0 ≤ e.til ∧ 0 ≤ e.trn ∧ e.trn < x.tn) (hasc : (e0 :: E).Pairwise fun a b => a.til ≤ b.til ∧ a.trn < b.trn ∧ a.key ≠ b.key) :
    Calls Tryz.prog 178 #[.pointer (some ⟨N, 8, none⟩)] w fun e w' => e = .returned (encQ e0.key) ∧ Below w.heap.size w w' := by
  obtain ⟨g, hmq, h4, h5⟩ := hs
  have hMsl := hmq.lt
  obtain ⟨D, h1, hsz, h3⟩ := hmq
  have h3' := (show Hid _ from h3)
  have h5' := (show Hid _ from h5)
  have hhas : Hid (∀ e ∈ e0 :: E, Maps.has D (qLit e.key) = true) := by
    intro e he
    rw [(h3 _ (hok e he).1).1, h4 e he]
    rfl
  have hb3 : Below w.heap.size w (((w.alloc (qBox (0, 0))).alloc (qBox (0, 0))).alloc (mBox (0, 0))) := (((Below.refl _ _).alloc (Nat.le_refl _) _).alloc (by simp) _).alloc (by simp; omega) _
  have hR : QB w.heap.size (0, 0) (((w.alloc (qBox (0, 0))).alloc (qBox (0, 0))).alloc (mBox (0, 0))) :=
    (((Below.refl _ ((w.alloc (qBox (0, 0))).alloc (qBox (0, 0)))).alloc (Nat.le_refl _) _).block w.heap.size (by simp; omega)).trans ((((Below.refl _ (w.alloc (qBox (0, 0)))).alloc (Nat.le_refl _) _).block w.heap.size (by simp)).trans (heap_alloc_new w _))
  have hF : QB (w.heap.size + 1) (0, 0) (((w.alloc (qBox (0, 0))).alloc (qBox (0, 0))).alloc (mBox (0, 0))) := by
    have h1 := ((Below.refl _ ((w.alloc (qBox (0, 0))).alloc (qBox (0, 0)))).alloc (Nat.le_refl _) (mBox (0, 0))).block (w.heap.size + 1) (by simp)
    have h2 := heap_alloc_new (w.alloc (qBox (0, 0))) (qBox (0, 0))
    rw [World.size_alloc] at h2
    exact h1.trans h2
  have hL : MmB (w.heap.size + 2) (0, 0) (((w.alloc (qBox (0, 0))).alloc (qBox (0, 0))).alloc (mBox (0, 0))) := by
    have := heap_alloc_new ((w.alloc (qBox (0, 0))).alloc (qBox (0, 0))) (mBox (0, 0))
    rw [World.size_alloc, World.size_alloc] at this
    exact this
  have hsz3 : (((w.alloc (qBox (0, 0))).alloc (qBox (0, 0))).alloc (mBox (0, 0))).heap.size = w.heap.size + 3 := by simp
  have hN3 := hN.later hb3
  have h13 : (((w.alloc (qBox (0, 0))).alloc (qBox (0, 0))).alloc (mBox (0, 0))).ownsMap Tryz.prog 261 memR x.Ms (e0 :: E).length D := by
    obtain ⟨es, clock, hb, Ft, hs, hD⟩ := h1
    exact ⟨es, clock, (hb3.block _ (some_lt' hb)).trans hb, Ft, hs, hD⟩
  clear h3 h5 h1 hN h4 hsz
  dsimp only [qBox, mBox] at hb3 hR hF hL hN3 h13 hsz3
  go_enter Tryz.func178, Tryz.ntmps178
  go_upto_region 3 with (fail)
  generalize World.alloc (World.alloc (World.alloc _ _) _) _ = W3 at hb3 hR hF hL hN3 h13 hsz3 ⊢
  obtain ⟨n0, n2, n3, n4, n5, n6, n7, n8, n9, n10⟩ := hN3.cell
  go_wp2_with (at_range; refine wpList_range_own _ rfl _ 111 rfl 261 279 tq_law Tryz.underlying111 _ x.Ms (e0 :: E).length _ rfl h13 ?_; intro w0 hrg0 hg0 hs0)
  go_frame
  generalize hnn : (e0 :: E).length = nn at hrg0
  clear hnn
  replace hsz3 := (show Hid _ from hsz3)
  generalize hR3 : W3.heap.size = R3 at hrg0 ⊢
  replace hR3 := (show Hid _ from hR3)
  go_loopw [5] (fun av wr => ∃ (left : Lit → Bool) (cnt : Nat) (an : Bool) (f l : Int × Int), av = .bool an ∧ FirR x.Ms R3 nn w.heap.size D (e0 :: E) w left cnt an f l wr) (fun _ wr => wr.rangeLeft x.Ms R3)
  case atStart =>
    have hb : Below W3.heap.size W3 w0 := ⟨hg0.os, hg0.tape, hg0.output, hg0.size, fun k hk => hg0.block k hk (by simp)⟩
    have hsz3' := hsz3.out
    have hR3' := hR3.out
    exact ⟨_, _, false, (0, 0), (0, 0), rfl, hrg0, by unfold FirI; rw [if_neg (by simp)]; exact hhas.out, (hb.block _ (by omega)).trans hR, (hb.block _ (by omega)).trans hF, (hb.block _ (by omega)).trans hL, hb3.trans (hb.mono hb3.size), by omega⟩
  case round =>
    clear hb3 hR hF hL hN3 h13 n0 n2 n3 n4 n5 n6 n7 n8 n9 n10 hrg0 hg0 hs0
    obtain ⟨left, cnt, an, f, l, rfl, hr⟩ := hrel
    go_wp2_with (at_next; refine wpList_next_ranges _ rfl _ rfl 261 tq_law memR encQ encM (fun key kl hk => by obtain ⟨q, hq, _⟩ := keyQ_inv hk; exact ⟨q, hq⟩) (fun v y hv => memR_shape hv) x.Ms R3 nn _ _ _ rfl hr.rg ?_ ?_)
    · intro hc0 hl0
      obtain rfl := hr.fi.done hl0 hasc
      obtain ⟨_, _, hr0, hf0, _, hbe, hsz⟩ := hr
      obtain ⟨c0, c1⟩ := hf0.cell
      obtain ⟨r0, r1⟩ := hr0.cell
      have z0 := hr0.free 0
      have z1 := hr0.free 1
      have hst := hr0.set e0.key
      have hbs : Below w.heap.size w ((wr.setCell ⟨w.heap.size, 0, none⟩ (.int .u32 e0.key.1)).setCell ⟨w.heap.size, 1, none⟩ (.int .u32 e0.key.2)) := (hbe.setCell (p := ⟨w.heap.size, 0, none⟩) (Nat.le_refl _) _).setCell (p := ⟨w.heap.size, 1, none⟩) (Nat.le_refl _) _
      clear hr0 hf0 hbe
      go_wp2
      generalize World.setCell _ _ _ = W9 at hst hbs ⊢
      obtain ⟨p0, p1⟩ := hst.cell
      exact bodyPost_ret (v := encQ e0.key) (by simp [results, Tryz.results178, go_sem, p0, p1, encQ]) rfl ⟨rfl, hbs⟩
    · intro q1 q2 m1 m2 kl yd yp w2 cnt2 hkey hlk hv hat hrg2 hlt hg2 hs2 hen
      obtain ⟨q', hq', hqo, rfl⟩ := keyQ_inv hkey
      obtain rfl : (q1, q2) = q' := encQ_inj hq'
      have h3x := (h3'.out _ hqo).2
      rw [hat] at h3x
      rw [memR_of] at hv
      have hyd := congrArg Prod.fst (Option.some.inj hv)
      dsimp only at hyd
      rw [← hyd] at h3x
      have hsome := (h3'.out _ hqo).1
      rw [has_true_of_atKey hat] at hsome
      obtain ⟨mm, hmm⟩ := Option.isSome_iff_exists.1 hsome.symm
      rw [hmm] at h3x
      have hme := datM_inj h3x
      simp only [Option.getD_some] at hme
      subst hme
      obtain ⟨e, he, hek, hee⟩ := h5'.out _ _ hqo hmm
      obtain ⟨rfl, rfl⟩ := Prod.mk.injEq .. ▸ hee
      have hrl := hr.rg.left_eq
      obtain ⟨_, hfi, hr0, hf0, hl0, hbe, hsz⟩ := hr
      have hR3' := (show Hid (R3 = w.heap.size + 3) from by show _ = _; rw [← hR3.out, hsz3.out])
      have hR3e := hR3'.out
      have hg2' : ∀ k, k < w.heap.size + 3 → w2.heap[k]? = wr.heap[k]? := fun k hk => hg2.block k (by omega) (by intro e; cases e; omega)
      have hB2 : Below w.heap.size w w2 := hbe.trans ⟨hg2.os, hg2.tape, hg2.output, hg2.size, fun k hk => hg2' k (by omega)⟩
      have k0 : QB w.heap.size (0, 0) w2 := (hg2' _ (by omega)).trans hr0
      have kf : QB (w.heap.size + 1) f w2 := (hg2' _ (by omega)).trans hf0
      have kl : MmB (w.heap.size + 2) l w2 := (hg2' _ (by omega)).trans hl0
      have hb4 : Below w2.heap.size w2 ((w2.alloc (qBox (q1, q2))).alloc (mBox (e.til, e.trn))) := ((Below.refl _ _).alloc (Nat.le_refl _) _).alloc (by simp) _
      have hQ4 : QB w2.heap.size (q1, q2) ((w2.alloc (qBox (q1, q2))).alloc (mBox (e.til, e.trn))) := (((Below.refl _ (w2.alloc (qBox (q1, q2)))).alloc (Nat.le_refl _) _).block _ (by simp)).trans (heap_alloc_new w2 _)
      have hM4 : MmB (w2.heap.size + 1) (e.til, e.trn) ((w2.alloc (qBox (q1, q2))).alloc (mBox (e.til, e.trn))) := by
        have := heap_alloc_new (w2.alloc (qBox (q1, q2))) (mBox (e.til, e.trn))
        rw [World.size_alloc] at this
        exact this
      have hme : Hid (cnt2 < wr.rangeLeft x.Ms R3) := by
        show _ < _
        rw [hrl]
        exact hlt
      have hrg4 := ranges_below hrg2 hb4
      have hs4 : w.heap.size + 4 ≤ ((w2.alloc (qBox (q1, q2))).alloc (mBox (e.til, e.trn))).heap.size := by simp; omega
      have j0 : QB w.heap.size (0, 0) ((w2.alloc (qBox (q1, q2))).alloc (mBox (e.til, e.trn))) := (hb4.block _ (by omega)).trans k0
      have jf : QB (w.heap.size + 1) f ((w2.alloc (qBox (q1, q2))).alloc (mBox (e.til, e.trn))) := (hb4.block _ (by omega)).trans kf
      have jl : MmB (w.heap.size + 2) l ((w2.alloc (qBox (q1, q2))).alloc (mBox (e.til, e.trn))) := (hb4.block _ (by omega)).trans kl
      have hB4 := hB2.trans (hb4.mono hB2.size)
      have hl2 : w.heap.size + 4 ≤ w2.heap.size := by omega
      clear hR3e k0 kf kl hb4 hrg2 hB2 hg2 hg2' hs2 hr0 hf0 hl0 hbe hat hv hyd h3x hmm hsome hkey hq'
      dsimp only [encQ, encM] at hen
      dsimp only [encQ, encM]
      dsimp only [qBox, mBox] at hQ4 hM4 hrg4 hs4 j0 jf jl hB4
      go_upto_region 6 with (fail)
      generalize World.alloc (World.alloc _ _) _ = W4 at hQ4 hM4 hrg4 hs4 j0 jf jl hB4 ⊢
      generalize w2.heap.size = C at hQ4 hM4 hl2 ⊢
      have hokE : ∀ z ∈ e0 :: E, QOk z.key := fun z hz => (hok z hz).1
      have hput : Hid (∀ W5, Below W4.heap.size W4 W5 → (if an then (if e.til = l.1 then e.trn < l.2 else e.til < l.1) else True) → FirR x.Ms R3 nn w.heap.size D (e0 :: E) w (fun z => left z && !z.sameKey (qLit (q1, q2))) cnt2 true (q1, q2) (e.til, e.trn) ((((W5.setCell ⟨w.heap.size + 1, 0, none⟩ (.int .u32 q1)).setCell ⟨w.heap.size + 1, 1, none⟩ (.int .u32 q2)).setCell ⟨w.heap.size + 1 + 1, 0, none⟩ (.int .u64 e.til)).setCell ⟨w.heap.size + 1 + 1, 1, none⟩ (.int .i64 e.trn)).drew) := fun W5 h5 hc => by
        have hz5 := h5.size
        refine FirR.put (p := (q1, q2)) (m := (e.til, e.trn)) (ranges_below hrg4 h5) ((h5.block _ (by omega)).trans j0) ((h5.block _ (by omega)).trans jf) ((h5.block _ (by omega)).trans jl) (hB4.trans (h5.mono hB4.size)) (by omega) hR3'.out hMsl ?_
        rw [← hek]
        refine hfi.yes hokE hasc he (by rw [hek]; exact hlk) fun h => ?_
        rw [if_pos h] at hc
        exact hc
      have hkeep : Hid (∀ W5, Below W4.heap.size W4 W5 → an = true → ¬ (if e.til = l.1 then e.trn < l.2 else e.til < l.1) → FirR x.Ms R3 nn w.heap.size D (e0 :: E) w (fun z => left z && !z.sameKey (qLit (q1, q2))) cnt2 true f l W5) := fun W5 h5 ha hc => by
        subst ha
        have hz5 := h5.size
        refine ⟨ranges_below hrg4 h5, ?_, (h5.block _ (by omega)).trans j0, (h5.block _ (by omega)).trans jf, (h5.block _ (by omega)).trans jl, hB4.trans (h5.mono hB4.size), by omega⟩
        rw [← hek]
        exact hfi.no hokE hasc he hc
      have hcl : Hid (∀ W5, Below W4.heap.size W4 W5 → QB C (q1, q2) W5 ∧ MmB (C + 1) (e.til, e.trn) W5 ∧ QB (w.heap.size + 1) f W5 ∧ MmB (w.heap.size + 2) l W5) := fun W5 h5 =>
        ⟨(h5.block _ (some_lt' hQ4)).trans hQ4, (h5.block _ (some_lt' hM4)).trans hM4, (h5.block _ (by omega)).trans jf, (h5.block _ (by omega)).trans jl⟩
      clear hokE hfi hrg4 j0 jf jl hB4 hs4 hasc hQ4 hM4
      cases an
      · obtain ⟨hQ4, hM4, jf, jl⟩ := hcl.out W4 (Below.refl _ _)
        obtain ⟨a0, a1⟩ := hQ4.cell
        obtain ⟨b0, b1⟩ := hM4.cell
        obtain ⟨d0, d1⟩ := jf.cell
        obtain ⟨g0, g1⟩ := jl.cell
        have y0 := jf.free 0
        have y1 := jf.free 1
        have y2 := jl.free 0
        have y3 := jl.free 1
        dsimp only at a0 a1 b0 b1
        have hF := hput.out W4 (Below.refl _ _) (by simp)
        clear hput hkeep hcl hQ4 hM4 jf jl
        go_wp2_with fail
        go_region
        generalize World.drew _ = W9 at hF ⊢
        go_wp2_with fail
        go_roundw
        case rel => exact ⟨_, cnt2, true, _, _, rfl, hF⟩
        case measure => rw [hF.rg.left_eq]; exact hme.out
      · obtain ⟨hQ4, hM4, jf, jl⟩ := hcl.out W4 (Below.refl _ _)
        obtain ⟨a0, a1⟩ := hQ4.cell
        obtain ⟨b0, b1⟩ := hM4.cell
        obtain ⟨d0, d1⟩ := jf.cell
        obtain ⟨g0, g1⟩ := jl.cell
        dsimp only at a0 a1 b0 b1
        clear hQ4 hM4 jf jl
        go_wp2_with fail
        refine Calls.mono (mahead_any (e.til, e.trn) l W4) ?_
        rintro r W5 ⟨rfl, hb5⟩
        clear a0 a1 b0 b1 d0 d1 g0 g1
        obtain ⟨hQ4, hM4, jf, jl⟩ := hcl.out W5 hb5
        obtain ⟨a0, a1⟩ := hQ4.cell
        obtain ⟨b0, b1⟩ := hM4.cell
        obtain ⟨d0, d1⟩ := jf.cell
        obtain ⟨g0, g1⟩ := jl.cell
        have y0 := jf.free 0
        have y1 := jf.free 1
        have y2 := jl.free 0
        have y3 := jl.free 1
        dsimp only at a0 a1 b0 b1
        by_cases hc : (if e.til = l.1 then e.trn < l.2 else e.til < l.1)
        · have hF := hput.out W5 hb5 (by rw [if_pos trivial]; exact hc)
          have hbt : (if e.til = l.1 then decide (e.trn < l.2) else decide (e.til < l.1)) = true := by
            split at hc <;> simp_all
          dsimp only
          rw [hbt]
          clear hput hkeep hcl hQ4 hM4 jf jl hc hbt
          go_wp2_with fail
          go_region
          generalize World.drew _ = W9 at hF ⊢
          go_wp2_with fail
          go_roundw
          case rel => exact ⟨_, cnt2, true, _, _, rfl, hF⟩
          case measure => rw [hF.rg.left_eq]; exact hme.out
        · have hF := hkeep.out W5 hb5 trivial hc
          have hbt : (if e.til = l.1 then decide (e.trn < l.2) else decide (e.til < l.1)) = false := by
            split at hc <;> simp_all
          dsimp only
          rw [hbt]
          clear hput hkeep hcl hQ4 hM4 jf jl hc hbt
          go_wp2_with fail
          go_roundw
          case rel => exact ⟨_, cnt2, true, _, _, rfl, hF⟩
          case measure => rw [hF.rg.left_eq]; exact hme.out

theorem filter_two {α : Type} (p : α → Bool) : ∀ l : List α, (l.filter p).length + (l.filter fun x => !p x).length = l.length
  | [] => rfl
  | x :: l => by
    have := filter_two p l
    cases h : p x <;> simp [h] <;> omega
/-- The map behind 'm[q] = ..'. -/
theorem SnM.put {Ms : Nat} {tn : Int} {E : List Mm} {W W' : World} {g : Int × Int → Option (Int × Int)} (h : SnM Ms tn E W) (h2 : ∀ e ∈ E, g e.key = some (e.til, e.trn)) (h3 : ∀ k m, QOk k → g k = some m → ∃ e ∈ E, e.key = k ∧ m = (e.til, e.trn)) {q : Int × Int} (hq : QOk q) {til : Int} (h0 : 0 ≤ til) (hm : ∀ e ∈ E, e.til ≤ til)
    (hM : MapQ W' Ms (updQ g q (some (til, tn))) (if (g q).isSome then E.length else E.length + 1)) :
    ∃ g', MapQ W' Ms g' (seenPut E q til tn).length ∧ (∀ e ∈ seenPut E q til tn, g' e.key = some (e.til, e.trn)) ∧ (∀ k m, QOk k → g' k = some m → ∃ e ∈ seenPut E q til tn, e.key = k ∧ m = (e.til, e.trn)) ∧ (∀ e ∈ seenPut E q til tn, QOk e.key ∧ 0 ≤ e.til ∧ 0 ≤ e.trn ∧ e.trn < tn + 1) ∧ (seenPut E q til tn).Pairwise (fun a b => a.til ≤ b.til ∧ a.trn < b.trn ∧ a.key ≠ b.key) ∧ (seenPut E q til tn).length ≤ 17 := by
  have hk : (⟨q.1, q.2, til, tn⟩ : Mm).key = q := rfl
  have htn := h.tn0
  have hmem : ∀ e, e ∈ seenPut E q til tn ↔ (e ∈ E ∧ e.key ≠ q) ∨ e = ⟨q.1, q.2, til, tn⟩ := by
    intro e
    unfold seenPut
    simp [List.mem_append, List.mem_filter]
  have hfl : (E.filter fun e => !decide (e.key = q)).length ≤ E.length := List.length_filter_le ..
  have hlen : (seenPut E q til tn).length = if (g q).isSome then E.length else E.length + 1 := by
    unfold seenPut
    rw [List.length_append, List.length_singleton]
    cases hg : g q with
    | none =>
      have : E.filter (fun e => !decide (e.key = q)) = E := List.filter_eq_self.2 fun e he => by
        have : e.key ≠ q := fun hc => by
          have := h2 e he
          rw [hc, hg] at this
          cases this
        simp [this]
      rw [this]
      simp
    | some m =>
      obtain ⟨e, he, hek, _⟩ := h3 q m hq hg
      have hcount : (E.filter fun e => decide (e.key = q)).length = 1 := by
        have hnd : (E.filter fun e => decide (e.key = q)).Pairwise (fun a b => a.key ≠ b.key) := (h.asc.imp fun h => h.2.2).filter _
        have hall : ∀ z ∈ E.filter (fun e => decide (e.key = q)), z.key = q := fun z hz => by simpa using (List.mem_filter.1 hz).2
        have hin : e ∈ E.filter (fun e => decide (e.key = q)) := List.mem_filter.2 ⟨he, by simpa using hek⟩
        generalize E.filter (fun e => decide (e.key = q)) = F at hnd hall hin ⊢
        match F, hnd, hall, hin with
        | [], _, _, hin => simp at hin
        | [_], _, _, _ => rfl
        | a :: b :: r, hnd, hall, _ =>
          exfalso
          have h1 := (List.pairwise_cons.1 hnd).1 b (List.mem_cons_self ..)
          exact h1 ((hall a (List.mem_cons_self ..)).trans (hall b (List.mem_cons_of_mem _ (List.mem_cons_self ..))).symm)
      have hsum := filter_two (fun e : Mm => decide (e.key = q)) E
      simp only [Option.isSome_some, if_true]
      omega
  refine ⟨_, by rw [hlen]; exact hM, fun e he => ?_, fun k m hk hg => ?_, fun e he => ?_, ?_, by rw [hlen]; have := h.len; split <;> omega⟩
  · rcases (hmem e).1 he with ⟨he, hne⟩ | rfl
    · simp only [updQ, if_neg hne]
      exact h2 e he
    · simp [updQ, Mm.key]
  · unfold updQ at hg
    split at hg
    · rename_i hkq
      subst hkq
      exact ⟨_, (hmem _).2 (.inr rfl), rfl, (Option.some.inj hg).symm⟩
    · rename_i hkq
      obtain ⟨e, he, hek, hm⟩ := h3 k m hk hg
      exact ⟨e, (hmem e).2 (.inl ⟨he, by rw [hek]; exact hkq⟩), hek, hm⟩
  · rcases (hmem e).1 he with ⟨he, _⟩ | rfl
    · have := h.ok e he
      exact ⟨this.1, this.2.1, this.2.2.1, by omega⟩
    · exact ⟨hq, h0, htn, by dsimp only; omega⟩
  · unfold seenPut
    refine List.pairwise_append.2 ⟨h.asc.filter _, by simp, fun a ha b hb => ?_⟩
    rw [List.mem_singleton] at hb
    subst hb
    obtain ⟨ha1, ha2⟩ := List.mem_filter.1 ha
    have := h.ok a ha1
    exact ⟨hm a ha1, this.2.2.2, by show a.key ≠ q; simpa using ha2⟩
/-- The map behind 'delete(m, first)'. -/
theorem snM_del {Ms : Nat} {tn : Int} {e0 : Mm} {E : List Mm} {W' : World} {g : Int × Int → Option (Int × Int)} (h2 : ∀ e ∈ e0 :: E, g e.key = some (e.til, e.trn)) (h3 : ∀ k m, QOk k → g k = some m → ∃ e ∈ e0 :: E, e.key = k ∧ m = (e.til, e.trn)) (hok : ∀ e ∈ e0 :: E, QOk e.key ∧ 0 ≤ e.til ∧ 0 ≤ e.trn ∧ e.trn < tn) (ha : (e0 :: E).Pairwise fun a b => a.til ≤ b.til ∧ a.trn < b.trn ∧ a.key ≠ b.key) (hl : (e0 :: E).length ≤ 17) (ht : 0 ≤ tn)
    (hM : MapQ W' Ms (updQ g e0.key none) ((e0 :: E).length - 1)) : SnM Ms tn E W' := by
  have hp := List.pairwise_cons.1 ha
  refine ⟨⟨_, hM, fun e he => ?_, fun k m hk hg => ?_⟩, fun e he => hok e (List.mem_cons_of_mem _ he), hp.2, by simpa using hl, ht⟩
  · have := (hp.1 e he).2.2
    simp only [updQ, if_neg (Ne.symm this)]
    exact h2 e (List.mem_cons_of_mem _ he)
  · unfold updQ at hg
    split at hg
    · cases hg
    · rename_i hne
      obtain ⟨e, he, hek, hm⟩ := h3 k m hk hg
      rcases List.mem_cons.1 he with rfl | he
      · exact absurd hek.symm hne
      · exact ⟨e, he, hek, hm⟩
end Go.Proofs.YtakaadcpaeiccabGreat
