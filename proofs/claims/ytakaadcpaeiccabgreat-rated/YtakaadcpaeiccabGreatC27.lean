import Derived.Test.YtakaadcpaeiccabGreatC18
import Derived.Test.YtakaadcpaeiccabGreatC21
import Derived.Test.YtakaadcpaeiccabGreatC26
import Derived.Test.YtakaadcpaeiccabGreatC19
import Derived.Deep.RegionHeld3
namespace Go.Proofs.YtakaadcpaeiccabGreat
open Go.RowKit Go.Maps

/-! A whole node in memory, with what it does in a call. -/
theorem MapI.block {W W' : World} {M : Nat} {f : Int → Option Nat} {s : Nat} (h : MapI W M f s) (he : W'.heap[M]? = W.heap[M]?) : MapI W' M f s := by
  obtain ⟨D, ⟨es, clock, hb, Ft, hs, hD⟩, h2, h3⟩ := h
  exact ⟨D, ⟨es, clock, he.trans hb, Ft, hs, hD⟩, h2, h3⟩
theorem MapI.obj {W : World} {M : Nat} {f : Int → Option Nat} {s : Nat} (h : MapI W M f s) : ∃ es cl, W.heap[M]? = some (.map es cl) := by
  obtain ⟨D, ⟨es, cl, hm, _⟩, _⟩ := h
  exact ⟨es, cl, hm⟩
theorem TR.at {base T M : Nat} {last : Int} {h : List Hp.Tm} {v : Value} {W W' : World} (r : TR base T M last h v W) (h1 : W'.heap[T]? = W.heap[T]?) (h2 : W'.heap[M]? = W.heap[M]?) (h3 : ∀ k, v.ownBlock = some k → W'.heap[k]? = W.heap[k]?) : TR base T M last h v W' := by
  obtain ⟨f, p1, p2⟩ := r.map
  exact ⟨h1.trans r.blk, row_at r.row h3, ⟨f, p1.block h2, p2⟩, r.ok, r.bT, r.bM⟩
/-- The timer of a search. -/
def tmOf (q : Sr) : Hp.Tm := (q.due, q.id, q.dest)
/-- What of a node lies beside its table and its diary. -/
structure RsM (x : NdV) (h : Int → Option Nat) (u : Int → Value) (Mt : Nat) (hp : List Hp.Tm) (tv : Value) (s : St) (TL : List Hp.Tm) (W : World) : Prop where
  sn : SnM x.Ms s.tn s.mem W
  sr : SrM x.Msr h u s.Q W
  tm : TR 0 x.Tm Mt s.tl hp tv W
  hpo : Hp.Heap hp
  pm : hp.Perm TL
  pc : W.ownsRow 0 35 1 x.pc s.pc.length (s.pc.map (Value.int .u64))
def RsIn (x : NdV) (h : Int → Option Nat) (u : Int → Value) (Mt : Nat) (tv : Value) (s : St) (k : Nat) : Prop :=
  k = x.Ms ∨ SrIn x.Msr h u s.Q k ∨ k = x.Tm ∨ k = Mt ∨ tv.ownBlock = some k ∨ x.pc.ownBlock = some k
theorem RsM.kept {x : NdV} {h : Int → Option Nat} {u : Int → Value} {Mt : Nat} {hp : List Hp.Tm} {tv : Value} {s : St} {TL : List Hp.Tm} {W W' : World} (r : RsM x h u Mt hp tv s TL W) (he : ∀ k, RsIn x h u Mt tv s k → W'.heap[k]? = W.heap[k]?) : RsM x h u Mt hp tv s TL W' :=
  ⟨r.sn.block (he _ (.inl rfl)), r.sr.kept fun k hk => he k (.inr (.inl hk)), r.tm.at (he _ (.inr (.inr (.inl rfl)))) (he _ (.inr (.inr (.inr (.inl rfl))))) fun k hk => he k (.inr (.inr (.inr (.inr (.inl hk))))), r.hpo, r.pm, row_at r.pc fun k hk => he k (.inr (.inr (.inr (.inr (.inr hk)))))⟩
theorem RsM.lt {x : NdV} {h : Int → Option Nat} {u : Int → Value} {Mt : Nat} {hp : List Hp.Tm} {tv : Value} {s : St} {TL : List Hp.Tm} {W : World} (r : RsM x h u Mt hp tv s TL W) {k : Nat} (hk : RsIn x h u Mt tv s k) : k < W.heap.size := by
  rcases hk with rfl | hk | rfl | rfl | hk | hk
  · exact r.sn.lt
  · exact r.sr.lt hk
  · exact r.tm.blk.lt
  · obtain ⟨f, p1, _⟩ := r.tm.map
    exact p1.lt
  · exact (r.tm.row.lt k hk).2
  · exact (r.pc.lt k hk).2
/-- The object is of none of the kinds of the rest; maps aside. -/
def offR (o : Obj) : Prop := (∀ c, o ≠ .cells c 177 (0, 0)) ∧ (∀ c, o ≠ .cells c 9 (0, 0)) ∧ (∀ c, o ≠ .cells c 165 (0, 0)) ∧ (∀ c, o ≠ .cells c 254 (0, 0)) ∧ ∀ c, o ≠ .cells c 35 (0, 0)
theorem RsM.kind {x : NdV} {h : Int → Option Nat} {u : Int → Value} {Mt : Nat} {hp : List Hp.Tm} {tv : Value} {s : St} {TL : List Hp.Tm} {W : World} (r : RsM x h u Mt hp tv s TL W) {k : Nat} (hk : RsIn x h u Mt tv s k) :
    ∃ o, W.heap[k]? = some o ∧ (((k = x.Ms ∨ k = x.Msr ∨ k = Mt) ∧ ∃ es cl, o = .map es cl) ∨ (¬ offR o ∧ Go.Proofs.YtakaadcpaeiccabGreat.offT o ∧ offA o ∧ (∀ c, o ≠ .cells c 131 (0, 0)) ∧ ∀ es cl, o ≠ .map es cl)) := by
  have hT : ∀ {t : TypeId} (c : Array Value), (t = 177 ∨ t = 9 ∨ t = 165 ∨ t = 254 ∨ t = 35) → ¬ offR (.cells c t (0, 0)) ∧ Go.Proofs.YtakaadcpaeiccabGreat.offT (.cells c t (0, 0)) ∧ offA (.cells c t (0, 0)) ∧ (∀ d, (Obj.cells c t (0, 0)) ≠ .cells d 131 (0, 0)) ∧ ∀ es cl, (Obj.cells c t (0, 0)) ≠ .map es cl := by
    rintro t c (rfl | rfl | rfl | rfl | rfl) <;>
    exact ⟨by simp [offR], ⟨fun c e => (by cases e), fun c e => (by cases e), fun c e => (by cases e)⟩, ⟨fun c e => (by cases e), fun c e => (by cases e), fun c e => (by cases e), fun c e => (by cases e), fun c e => (by cases e)⟩, fun c e => (by cases e), fun c d e => (by cases e)⟩
  rcases hk with rfl | hk | rfl | rfl | hk | hk
  · obtain ⟨es, cl, hm⟩ := r.sn.obj
    exact ⟨_, hm, .inl ⟨.inl rfl, _, _, rfl⟩⟩
  · obtain ⟨o, ho, ⟨rfl, es, cl, rfl⟩ | ⟨c, rfl⟩ | ⟨c, rfl⟩⟩ := r.sr.kind hk
    · exact ⟨_, ho, .inl ⟨.inr (.inl rfl), _, _, rfl⟩⟩
    · exact ⟨_, ho, .inr (hT c (.inl rfl))⟩
    · exact ⟨_, ho, .inr (hT c (.inr (.inl rfl)))⟩
  · exact ⟨_, r.tm.blk, .inr (hT _ (.inr (.inr (.inl rfl))))⟩
  · obtain ⟨f, p1, _⟩ := r.tm.map
    obtain ⟨es, cl, hm⟩ := p1.obj
    exact ⟨_, hm, .inl ⟨.inr (.inr rfl), _, _, rfl⟩⟩
  · obtain ⟨c, hc⟩ := row_obj r.tm.row hk
    exact ⟨_, hc, .inr (hT c (.inr (.inr (.inr (.inl rfl)))))⟩
  · obtain ⟨c, hc⟩ := row_obj r.pc hk
    exact ⟨_, hc, .inr (hT c (.inr (.inr (.inr (.inr rfl)))))⟩

/-- How a node lies in memory. -/
structure NdG where
  x : NdV
  a : AcV
  M : Nat
  ff : Int → Option Nat
  gg : Int → Value
  sz : Nat
  h : Int → Option Nat
  u : Int → Value
  Mt : Nat
  hp : List Hp.Tm
  tv : Value
/-- The plain numbers of a node's own cells. -/
structure NdE (x : NdV) (s : St) : Prop where
  self : x.self = s.me
  seq : x.seq = s.seq
  sil : x.sil = s.sil
  lreq : x.lreq = s.lreq
  ldat : x.ldat = s.ldat
  tn : x.tn = s.tn
  own : x.own = s.own
  cnt : x.cnt = s.cnt
  lk : x.lk = s.lk
/-- A node between two calls. -/
structure Nn (N : Nat) (g : NdG) (s : St) (TL : List Hp.Tm) (W : World) : Prop where
  cr : NdM N g.x g.M g.ff g.gg s.A s.f g.sz W
  eq : NdE g.x s
  rs : RsM g.x g.h g.u g.Mt g.hp g.tv s TL W
  nod : [g.M, g.x.Mo, g.x.Ms, g.x.Msr, g.Mt].Nodup
  siz : g.sz ≤ 1000000
/-- Its blocks. -/
def Ft (N : Nat) (g : NdG) (s : St) (k : Nat) : Prop := NdIn N g.x g.M g.ff g.gg s.A k ∨ RsIn g.x g.h g.u g.Mt g.tv s k
/-- A node within a call. -/
structure Nd (N B : Nat) (g : NdG) (s : St) (TL : List Hp.Tm) (W : World) : Prop where
  nn : Nn N g s TL W
  ac : AcM B (B + 1) g.a s.nws s.frs s.cms s.drs W
  now : g.a.now = s.now
  rep : g.a.rep = s.rep

/-- What a call may turn, and where what it leaves may lie: F the blocks of the node; what is done in the call grows besides. -/
structure Up (B : Nat) (F F' : Nat → Prop) (w w' : World) : Prop where
  sub : ∀ k, F' k → F k ∨ (w.heap.size ≤ k ∧ k < w'.heap.size)
  os : w'.os = w.os
  tape : w'.tape = w.tape
  output : w'.output = w.output
  size : w.heap.size ≤ w'.heap.size
  block : ∀ k o, w.heap[k]? = some o → ¬ F k → (offA o ∨ k < B) → w'.heap[k]? = some o
theorem some_lt {W : World} {k : Nat} {o : Obj} (h : W.heap[k]? = some o) : k < W.heap.size := (Array.getElem?_eq_some_iff.1 h).1
theorem Up.trans {B : Nat} {F F' F'' : Nat → Prop} {a b c : World} (p : Up B F F' a b) (q : Up B F' F'' b c) : Up B F F'' a c := by
  have h1 := p.size
  have h2 := q.size
  refine ⟨fun k hk => ?_, q.os.trans p.os, q.tape.trans p.tape, q.output.trans p.output, Nat.le_trans h1 h2, fun k o ho hn hA => ?_⟩
  · rcases q.sub k hk with h | h
    · rcases p.sub k h with h | h
      · exact .inl h
      · exact .inr (by omega)
    · exact .inr (by omega)
  · refine q.block k o (p.block k o ho hn hA) (fun h => ?_) hA
    rcases p.sub k h with h | h
    · exact hn h
    · have := some_lt ho
      omega
theorem Up.below {B : Nat} {F : Nat → Prop} {a b : World} (h : Below a.heap.size a b) : Up B F F a b :=
  ⟨fun _ h => .inl h, h.os, h.tape, h.output, h.size, fun k _ ho _ _ => (h.block k (some_lt ho)).trans ho⟩
theorem Up.refl (B : Nat) (F : Nat → Prop) (a : World) : Up B F F a a := .below (Below.refl _ _)
theorem Up.of {B : Nat} {S F F' : Nat → Prop} {a b : World} (h : Fx S a b) (hs : ∀ k o, S k → a.heap[k]? = some o → F k ∨ (¬ offA o ∧ B ≤ k)) (sub : ∀ k, F' k → F k ∨ (a.heap.size ≤ k ∧ k < b.heap.size)) : Up B F F' a b :=
  ⟨sub, h.os, h.tape, h.output, h.size, fun k o ho hn hA => (h.block k (some_lt ho) fun hk => by
    rcases hs k o hk ho with h | ⟨h1, h2⟩
    · exact hn h
    · rcases hA with h | h
      · exact h1 h
      · omega).trans ho⟩
theorem Up.toFx {B : Nat} {F F' : Nat → Prop} {a b : World} (h : Up B F F' a b) (hB : a.heap.size ≤ B) : Fx F a b :=
  ⟨h.os, h.tape, h.output, h.size, fun k hk hn => by
    obtain ⟨o, ho⟩ : ∃ o, a.heap[k]? = some o := ⟨_, Array.getElem?_eq_getElem hk⟩
    rw [ho]
    exact h.block k o ho hn (.inr (by omega))⟩
theorem Up.keep {B : Nat} {F F' : Nat → Prop} {a b : World} (p : Up B F F' a b) {k : Nat} {o : Obj} (ho : a.heap[k]? = some o) (hn : ¬ F k) (hA : offA o) : b.heap[k]? = some o ∧ ¬ F' k :=
  ⟨p.block k o ho hn (.inl hA), fun h => (p.sub k h).elim hn (by have := some_lt ho; omega)⟩

theorem MT.kind {me : Int} {T M : Nat} {f : Int → Option Nat} {g : Int → Value} {A : List Rt} {W : World} (h : MT me T M f g A W) {k : Nat} (hk : TIn T M f g A k) :
    ∃ o, W.heap[k]? = some o ∧ ((k = M ∧ ∃ es cl, o = .map es cl) ∨ (offA o ∧ offR o ∧ (∀ c, o ≠ .cells c 131 (0, 0)) ∧ ∀ es cl, o ≠ .map es cl)) := by
  have hT : ∀ {t : TypeId} (c : Array Value), (t = 158 ∨ t = 38 ∨ t = 34) → offA (.cells c t (0, 0)) ∧ offR (.cells c t (0, 0)) ∧ (∀ d, (Obj.cells c t (0, 0)) ≠ .cells d 131 (0, 0)) ∧ ∀ es cl, (Obj.cells c t (0, 0)) ≠ .map es cl := by
    rintro t c (rfl | rfl | rfl) <;>
    exact ⟨⟨fun c e => (by cases e), fun c e => (by cases e), fun c e => (by cases e), fun c e => (by cases e), fun c e => (by cases e)⟩, ⟨fun c e => (by cases e), fun c e => (by cases e), fun c e => (by cases e), fun c e => (by cases e), fun c e => (by cases e)⟩, fun c e => (by cases e), fun c d e => (by cases e)⟩
  rcases hk with rfl | rfl | ⟨y, hy, hk | hk⟩
  · exact ⟨_, h.blk, .inr (hT _ (.inl rfl))⟩
  · obtain ⟨es, cl, hm⟩ := h.map.obj
    exact ⟨_, hm, .inl ⟨rfl, _, _, rfl⟩⟩
  · obtain ⟨B, p1, p2⟩ := h.ln y hy
    rw [p1] at hk
    cases hk
    exact ⟨_, p2, .inr (hT _ (.inr (.inl rfl)))⟩
  · obtain ⟨c, hc⟩ := row_obj (h.row y hy) hk
    exact ⟨_, hc, .inr (hT c (.inr (.inr rfl)))⟩
theorem Nn.lt {N : Nat} {g : NdG} {s : St} {TL : List Hp.Tm} {W : World} (n : Nn N g s TL W) {k : Nat} (hk : Ft N g s k) : k < W.heap.size := by
  rcases hk with (rfl | rfl | hk) | hk
  · exact n.cr.nd.lt
  · exact n.cr.mo.lt
  · exact n.cr.tb.lt hk
  · exact n.rs.lt hk
/-- None of a node's blocks is of a kind of what it does in a call. -/
theorem Nn.offA {N : Nat} {g : NdG} {s : St} {TL : List Hp.Tm} {W : World} (n : Nn N g s TL W) {k : Nat} (hk : Ft N g s k) : ∃ o, W.heap[k]? = some o ∧ Go.Proofs.YtakaadcpaeiccabGreat.offA o := by
  rcases hk with (rfl | rfl | hk) | hk
  · exact ⟨_, n.cr.nd, nd_offA _⟩
  · obtain ⟨es, cl, hm⟩ := n.cr.mo.obj
    exact ⟨_, hm, map_offA es cl⟩
  · obtain ⟨o, ho, ⟨_, es, cl, rfl⟩ | ⟨h, _⟩⟩ := n.cr.tb.kind hk
    · exact ⟨_, ho, map_offA es cl⟩
    · exact ⟨o, ho, h⟩
  · obtain ⟨o, ho, ⟨_, es, cl, rfl⟩ | ⟨_, _, h, _⟩⟩ := n.rs.kind hk
    · exact ⟨_, ho, map_offA es cl⟩
    · exact ⟨o, ho, h⟩
theorem Nn.maps {N : Nat} {g : NdG} {s : St} {TL : List Hp.Tm} {W : World} (n : Nn N g s TL W) {k : Nat} (hk : k = g.x.Ms ∨ k = g.x.Msr ∨ k = g.Mt) : k ≠ g.M ∧ k ≠ g.x.Mo := by
  have h := n.nod
  simp only [List.nodup_cons, List.mem_cons, List.not_mem_nil, or_false, not_or] at h
  obtain ⟨⟨_, h1, h2, h3⟩, ⟨h4, h5, h6⟩, _⟩ := h
  rcases hk with rfl | rfl | rfl
  · exact ⟨Ne.symm h1, Ne.symm h4⟩
  · exact ⟨Ne.symm h2, Ne.symm h5⟩
  · exact ⟨Ne.symm h3, Ne.symm h6⟩
/-- The rest lies apart from the table and the diary. -/
theorem Nn.apart {N : Nat} {g : NdG} {s : St} {TL : List Hp.Tm} {W : World} (n : Nn N g s TL W) {k : Nat} (hk : RsIn g.x g.h g.u g.Mt g.tv s k) : ¬ NdIn N g.x g.M g.ff g.gg s.A k := by
  obtain ⟨o, ho, ⟨h, es, cl, rfl⟩ | ⟨h1, h2, h3, h4, h5⟩⟩ := n.rs.kind hk
  · obtain ⟨q1, q2⟩ := n.maps h
    rintro (rfl | rfl | hc)
    · rw [show W.heap[k]? = _ from n.cr.nd] at ho
      cases ho
    · exact q2 rfl
    · exact n.cr.tb.not q1 ho (map_offT es cl) hc
  · rintro (rfl | rfl | hc)
    · rw [show W.heap[k]? = _ from n.cr.nd] at ho
      exact h4 _ (Option.some.inj ho).symm
    · obtain ⟨es, cl, hm⟩ := n.cr.mo.obj
      rw [hm] at ho
      exact h5 _ _ (Option.some.inj ho).symm
    · refine n.cr.tb.not (fun e => ?_) ho h2 hc
      subst e
      obtain ⟨es, cl, hm⟩ := n.cr.tb.map.obj
      rw [hm] at ho
      exact h5 _ _ (Option.some.inj ho).symm
/-- A node stays where none of its blocks has turned. -/
theorem Nn.kept {N : Nat} {g : NdG} {s : St} {TL : List Hp.Tm} {W W' : World} (n : Nn N g s TL W) (he : ∀ k, Ft N g s k → W'.heap[k]? = W.heap[k]?) : Nn N g s TL W' :=
  ⟨⟨n.cr.nd.block (he _ (.inl (.inl rfl))), n.cr.mo.block (he _ (.inl (.inr (.inl rfl)))), n.cr.tb.kept fun k hk => he k (.inl (.inr (.inr hk))), n.cr.ne⟩, n.eq, n.rs.kept fun k hk => he k (.inr hk), n.nod, n.siz⟩
theorem Nn.later {N : Nat} {g : NdG} {s : St} {TL : List Hp.Tm} {W W' : World} (n : Nn N g s TL W) (hb : Below W.heap.size W W') : Nn N g s TL W' := n.kept fun k hk => hb.block k (n.lt hk)
theorem Nd.later {N B : Nat} {g : NdG} {s : St} {TL : List Hp.Tm} {W W' : World} (n : Nd N B g s TL W) (hb : Below W.heap.size W W') : Nd N B g s TL W' := ⟨n.nn.later hb, n.ac.later hb, n.now, n.rep⟩
/-- A state with the same node. -/
def SameN (s s' : St) : Prop := s'.me = s.me ∧ s'.seq = s.seq ∧ s'.sil = s.sil ∧ s'.lreq = s.lreq ∧ s'.ldat = s.ldat ∧ s'.A = s.A ∧ s'.mem = s.mem ∧ s'.tn = s.tn ∧ s'.f = s.f ∧ s'.own = s.own ∧ s'.cnt = s.cnt ∧ s'.Q = s.Q ∧ s'.tl = s.tl ∧ s'.pc = s.pc ∧ s'.lk = s.lk
theorem Nn.same {N : Nat} {g : NdG} {s s' : St} {TL : List Hp.Tm} {W : World} (n : Nn N g s TL W) (h : SameN s s') (a : AcV) : Nn N { g with a := a } s' TL W := by
  obtain ⟨h1, h2, h3, h4, h5, h6, h7, h8, h9, h10, h11, h12, h13, h14, h15⟩ := h
  obtain ⟨c, e, r, d, z⟩ := n
  obtain ⟨e1, e2, e3, e4, e5, e6, e7, e8, e9⟩ := e
  obtain ⟨r1, r2, r3, r4, r5, r6⟩ := r
  exact ⟨by rw [h6, h9]; exact c, ⟨by rw [h1]; exact e1, by rw [h2]; exact e2, by rw [h3]; exact e3, by rw [h4]; exact e4, by rw [h5]; exact e5, by rw [h8]; exact e6, by rw [h10]; exact e7, by rw [h11]; exact e8, by rw [h15]; exact e9⟩, ⟨by rw [h7, h8]; exact r1, by rw [h12]; exact r2, by rw [h13]; exact r3, r4, r5, by rw [h14]; exact r6⟩, d, z⟩
theorem Ft.same {N : Nat} {g : NdG} {s s' : St} (h : SameN s s') (a : AcV) (k : Nat) : Ft N { g with a := a } s' k ↔ Ft N g s k := by
  obtain ⟨h1, h2, h3, h4, h5, h6, h7, h8, h9, h10, h11, h12, h13, h14, h15⟩ := h
  unfold Ft RsIn
  rw [h6, h12]
theorem AcM.notN {N B : Nat} {g : NdG} {s : St} {TL : List Hp.Tm} {W : World} {base : Nat} {a : AcV} {nws : List (Bool × Int × Int)} {frs cms : List (Int × ByteArray)} {drs : List Int} (h : AcM B base a nws frs cms drs W) (n : Nn N g s TL W) {k : Nat} (hk : Ft N g s k) : ¬ AcIn B a k := by
  obtain ⟨o, ho, hA⟩ := n.offA hk
  exact h.not ho hA
theorem AcM.kinds {B base : Nat} {a : AcV} {nws : List (Bool × Int × Int)} {frs cms : List (Int × ByteArray)} {drs : List Int} {W : World} (h : AcM B base a nws frs cms drs W) {k : Nat} (hk : AcIn B a k) {o : Obj} (ho : W.heap[k]? = some o) : ¬ offA o := fun hA => h.not ho hA hk
/-- What is done in the call has grown. -/
theorem Nd.act {N B : Nat} {g : NdG} {s s' : St} {TL : List Hp.Tm} {W W' : World} (n : Nd N B g s TL W) {a' : AcV} (h : AcM B (B + 1) a' s'.nws s'.frs s'.cms s'.drs W') (hf : Fx (AcIn B g.a) W W') (he : SameN s s') (h1 : a'.now = s'.now) (h2 : a'.rep = s'.rep) :
    Nd N B { g with a := a' } s' TL W' ∧ Up B (Ft N g s) (Ft N { g with a := a' } s') W W' := by
  refine ⟨⟨(n.nn.kept fun k hk => hf.block k (n.nn.lt hk) (n.ac.notN n.nn hk)).same he a', h, h1, h2⟩, .of hf (fun k o hk ho => .inr ⟨n.ac.kinds hk ho, n.ac.ge hk⟩) fun k hk => .inl ((Ft.same he a' k).1 hk)⟩
/-- The table has turned. -/
theorem Nd.table {N B : Nat} {g : NdG} {s : St} {TL : List Hp.Tm} {W W' : World} (n : Nd N B g s TL W) {A' : List Rt} (h : Tab s.me g.x.T (ext (TIn g.x.T g.M g.ff g.gg s.A) W.heap.size W'.heap.size) A' W') (hf : Fx (TIn g.x.T g.M g.ff g.gg s.A) W W') :
    ∃ M' ff' gg', Nd N B { g with M := M', ff := ff', gg := gg' } { s with A := A' } TL W' ∧ Up B (Ft N g s) (Ft N { g with M := M', ff := ff', gg := gg' } { s with A := A' }) W W' := by
  obtain ⟨M', ff', gg', hM, hS⟩ := h
  have hrs : ∀ k, RsIn g.x g.h g.u g.Mt g.tv s k → ¬ TIn g.x.T g.M g.ff g.gg s.A k := fun k hk hc => n.nn.apart hk (.inr (.inr hc))
  have hM' : ∀ k, k < W.heap.size → ¬ TIn g.x.T g.M g.ff g.gg s.A k → M' ≠ k := by
    rintro k hk hn rfl
    rcases hS M' (.inr (.inl rfl)) with h | h
    · exact hn h
    · omega
  have hMo : ¬ TIn g.x.T g.M g.ff g.gg s.A g.x.Mo := by
    obtain ⟨es, cl, hm⟩ := n.nn.cr.mo.obj
    exact n.nn.cr.tb.not (Ne.symm n.nn.cr.ne) hm (map_offT es cl)
  have hN : ¬ TIn g.x.T g.M g.ff g.gg s.A N := n.nn.cr.tb.not (fun e => by
    obtain ⟨es, cl, hm⟩ := n.nn.cr.tb.map.obj
    rw [← e, show W.heap[N]? = _ from n.nn.cr.nd] at hm
    cases hm) n.nn.cr.nd (nd_offT _)
  have hnd := n.nn.nod
  simp only [List.nodup_cons, List.mem_cons, List.not_mem_nil, or_false, not_or] at hnd
  obtain ⟨_, hnd⟩ := hnd
  have hac : ∀ k, AcIn B g.a k → ¬ TIn g.x.T g.M g.ff g.gg s.A k := fun k hk hc => n.ac.notN n.nn (.inl (.inr (.inr hc))) hk
  refine ⟨M', ff', gg', ⟨⟨⟨n.nn.cr.nd.block (hf.block _ n.nn.cr.nd.lt hN), n.nn.cr.mo.block (hf.block _ n.nn.cr.mo.lt hMo), by rw [n.nn.eq.self]; exact hM, hM' _ n.nn.cr.mo.lt hMo⟩, ⟨n.nn.eq.self, n.nn.eq.seq, n.nn.eq.sil, n.nn.eq.lreq, n.nn.eq.ldat, n.nn.eq.tn, n.nn.eq.own, n.nn.eq.cnt, n.nn.eq.lk⟩, ?_, ?_, n.nn.siz⟩, n.ac.kept fun k hk => hf.block k (n.ac.lt hk) (hac k hk), n.now, n.rep⟩, .of hf (fun k o hk _ => .inl (.inl (.inr (.inr hk)))) fun k hk => ?_⟩
  · have := n.nn.rs.kept (W' := W') fun k hk => hf.block k (n.nn.rs.lt hk) (hrs k hk)
    exact ⟨this.sn, this.sr, this.tm, this.hpo, this.pm, this.pc⟩
  · have q1 := hM' _ n.nn.cr.mo.lt hMo
    have q2 := hM' _ (n.nn.rs.lt (.inl rfl)) (hrs _ (.inl rfl))
    have q3 := hM' _ (n.nn.rs.lt (.inr (.inl (.inl rfl)))) (hrs _ (.inr (.inl (.inl rfl))))
    have q4 := hM' _ (n.nn.rs.lt (.inr (.inr (.inr (.inl rfl))))) (hrs _ (.inr (.inr (.inr (.inl rfl)))))
    simp only [List.nodup_cons, List.mem_cons, List.not_mem_nil, or_false, not_or]
    exact ⟨⟨q1, q2, q3, q4⟩, hnd⟩
  · rcases hk with (rfl | rfl | hk) | hk
    · exact .inl (.inl (.inl rfl))
    · exact .inl (.inl (.inr (.inl rfl)))
    · rcases hS k hk with h | h
      · exact .inl (.inl (.inr (.inr h)))
      · exact .inr h
    · exact .inl (.inr hk)
/-- What lies beside the table and the diary has turned, with the node's own cells. -/
theorem Nd.rest {N B : Nat} {g : NdG} {s s' : St} {TL TL' : List Hp.Tm} {W W' : World} (n : Nd N B g s TL W) {x' : NdV} {h' : Int → Option Nat} {u' : Int → Value} {Mt' : Nat} {hp' : List Hp.Tm} {tv' : Value}
    (hx : NdB N x' W') (hT : x'.T = g.x.T) (hMo : x'.Mo = g.x.Mo) (he : NdE x' s') (hr : RsM x' h' u' Mt' hp' tv' s' TL' W') (hf : Fx (fun k => k = N ∨ RsIn g.x g.h g.u g.Mt g.tv s k) W W')
    (sub : ∀ k, RsIn x' h' u' Mt' tv' s' k → RsIn g.x g.h g.u g.Mt g.tv s k ∨ (W.heap.size ≤ k ∧ k < W'.heap.size)) (hm : x'.Ms = g.x.Ms ∧ x'.Msr = g.x.Msr ∧ Mt' = g.Mt)
    (hs : s'.me = s.me ∧ s'.A = s.A ∧ s'.f = s.f ∧ s'.nws = s.nws ∧ s'.frs = s.frs ∧ s'.cms = s.cms ∧ s'.drs = s.drs ∧ s'.now = s.now ∧ s'.rep = s.rep) :
    Nd N B { g with x := x', h := h', u := u', Mt := Mt', hp := hp', tv := tv' } s' TL' W' ∧ Up B (Ft N g s) (Ft N { g with x := x', h := h', u := u', Mt := Mt', hp := hp', tv := tv' } s') W W' := by
  obtain ⟨s1, s2, s3, s4, s5, s6, s7, s8, s9⟩ := hs
  obtain ⟨m1, m2, m3⟩ := hm
  have hcr : ∀ k, NdIn N g.x g.M g.ff g.gg s.A k → k ≠ N → ¬ (k = N ∨ RsIn g.x g.h g.u g.Mt g.tv s k) := fun k hk hne h => h.elim hne fun h => n.nn.apart h hk
  have hTN : ∀ k, TIn g.x.T g.M g.ff g.gg s.A k → k ≠ N := by
    rintro k hk rfl
    exact n.nn.cr.tb.not (fun e => by
      obtain ⟨es, cl, hm⟩ := n.nn.cr.tb.map.obj
      rw [← e, show W.heap[k]? = _ from n.nn.cr.nd] at hm
      cases hm) n.nn.cr.nd (nd_offT _) hk
  have hMoN : g.x.Mo ≠ N := Ne.symm (nd_mo n.nn.cr.nd n.nn.cr.mo)
  refine ⟨⟨⟨⟨hx, ?_, ?_, ?_⟩, he, hr, ?_, n.nn.siz⟩, ?_, by rw [s8]; exact n.now, by rw [s9]; exact n.rep⟩, .of hf (fun k o hk _ => .inl (hk.elim (fun h => .inl (.inl h)) .inr)) fun k hk => ?_⟩
  · rw [s3, show ({ g with x := x', h := h', u := u', Mt := Mt', hp := hp', tv := tv' } : NdG).x.Mo = g.x.Mo from hMo]
    exact n.nn.cr.mo.block (hf.block _ n.nn.cr.mo.lt (hcr _ (.inr (.inl rfl)) hMoN))
  · rw [s2, show ({ g with x := x', h := h', u := u', Mt := Mt', hp := hp', tv := tv' } : NdG).x.T = g.x.T from hT, show ({ g with x := x', h := h', u := u', Mt := Mt', hp := hp', tv := tv' } : NdG).x.self = g.x.self from by rw [n.nn.eq.self, ← s1]; exact he.self]
    exact n.nn.cr.tb.kept fun k hk => hf.block k (n.nn.cr.tb.lt hk) (hcr _ (.inr (.inr hk)) (hTN k hk))
  · rw [show ({ g with x := x', h := h', u := u', Mt := Mt', hp := hp', tv := tv' } : NdG).x.Mo = g.x.Mo from hMo]
    exact n.nn.cr.ne
  · have := n.nn.nod
    dsimp only
    rw [hMo, m1, m2, m3]
    exact this
  · rw [s4, s5, s6, s7]
    exact n.ac.kept fun k hk => hf.block k (n.ac.lt hk) fun h => n.ac.notN n.nn (h.elim (fun h => .inl (.inl h)) .inr) hk
  · rcases hk with (rfl | rfl | hk) | hk
    · exact .inl (.inl (.inl rfl))
    · exact .inl (.inl (.inr (.inl hMo)))
    · rw [s2] at hk
      dsimp only at hk
      rw [hT] at hk
      exact .inl (.inl (.inr (.inr hk)))
    · exact (sub k hk).imp_left .inr
/-- A node's own cells have turned. -/
theorem Nd.cells {N B : Nat} {g : NdG} {s s' : St} {TL : List Hp.Tm} {W W' : World} (n : Nd N B g s TL W) {x' : NdV} (hx : NdB N x' W') (hf : Fx (fun k => k = N) W W') (he : NdE x' s') (hm : x'.T = g.x.T ∧ x'.Mo = g.x.Mo ∧ x'.Ms = g.x.Ms ∧ x'.Msr = g.x.Msr ∧ x'.Tm = g.x.Tm ∧ x'.pc = g.x.pc)
    (hs : s'.me = s.me ∧ s'.A = s.A ∧ s'.f = s.f ∧ s'.nws = s.nws ∧ s'.frs = s.frs ∧ s'.cms = s.cms ∧ s'.drs = s.drs ∧ s'.now = s.now ∧ s'.rep = s.rep) (hs2 : s'.mem = s.mem ∧ s'.tn = s.tn ∧ s'.Q = s.Q ∧ s'.tl = s.tl ∧ s'.pc = s.pc) :
    Nd N B { g with x := x' } s' TL W' ∧ Up B (Ft N g s) (Ft N { g with x := x' } s') W W' := by
  obtain ⟨m1, m2, m3, m4, m5, m6⟩ := hm
  obtain ⟨t1, t2, t3, t4, t5⟩ := hs2
  have hin : ∀ k, RsIn x' g.h g.u g.Mt g.tv s' k → RsIn g.x g.h g.u g.Mt g.tv s k := by
    intro k hk
    unfold RsIn at hk ⊢
    rw [m3, m4, m5, m6, t3] at hk
    exact hk
  have hr := n.nn.rs.kept (W' := W') fun k hk => hf.block k (n.nn.rs.lt hk) fun e => n.nn.apart hk (.inl e)
  refine n.rest hx m1 m2 he ⟨?_, ?_, ?_, hr.hpo, hr.pm, ?_⟩ (hf.mono fun k h => .inl h) (fun k hk => .inl (hin k hk)) ⟨m3, m4, rfl⟩ hs
  · rw [m3, t1, t2]; exact hr.sn
  · rw [m4, t3]; exact hr.sr
  · rw [m5, t4]; exact hr.tm
  · rw [m6, t5]; exact hr.pc
end Go.Proofs.YtakaadcpaeiccabGreat

namespace Go.Proofs.YtakaadcpaeiccabGreat
open Go.RowKit Go.Maps

/-- What a call leaves of a node. -/
def NdP (N B : Nat) (g : NdG) (s s' : St) (TL' : List Hp.Tm) (w w' : World) : Prop := ∃ g', Nd N B g' s' TL' w' ∧ Up B (Ft N g s) (Ft N g' s') w w' ∧ Hid (g'.x.T = g.x.T)
theorem hide {P : Prop} (h : P) : Hid P := h
theorem NdP.trans {N B : Nat} {g : NdG} {s s' s'' : St} {TL' TL'' : List Hp.Tm} {a b c : World} (p : NdP N B g s s' TL' a b) (q : ∀ g', Nd N B g' s' TL' b → Up B (Ft N g s) (Ft N g' s') a b → g'.x.T = g.x.T → NdP N B g' s' s'' TL'' b c) : NdP N B g s s'' TL'' a c := by
  obtain ⟨g1, n1, u1, t1⟩ := p
  obtain ⟨g2, n2, u2, t2⟩ := q g1 n1 u1 t1.out
  exact ⟨g2, n2, u1.trans u2, t2.out.trans t1.out⟩
theorem NdP.refl {N B : Nat} {g : NdG} {s : St} {TL : List Hp.Tm} {w w' : World} (n : Nd N B g s TL w) (hb : Below w.heap.size w w') : NdP N B g s s TL w w' := ⟨g, n.later hb, .below hb, rfl⟩
theorem NdP.pre {N B : Nat} {g : NdG} {s s' : St} {TL' : List Hp.Tm} {a b c : World} (hb : Below a.heap.size a b) (p : NdP N B g s s' TL' b c) : NdP N B g s s' TL' a c := by
  obtain ⟨g1, n1, u1, t1⟩ := p
  exact ⟨g1, n1, (Up.below hb).trans u1, t1⟩
theorem NdP.post {N B : Nat} {g : NdG} {s s' : St} {TL' : List Hp.Tm} {a b c : World} (p : NdP N B g s s' TL' a b) (hb : Below b.heap.size b c) : NdP N B g s s' TL' a c := by
  obtain ⟨g1, n1, u1, t1⟩ := p
  exact ⟨g1, n1.later hb, u1.trans (.below hb), t1⟩
theorem Nd.base {N B : Nat} {g : NdG} {s : St} {TL : List Hp.Tm} {W : World} (n : Nd N B g s TL W) : B + 1 ≤ W.heap.size := n.ac.blk.lt
theorem Nd.cell {N B : Nat} {g : NdG} {s : St} {TL : List Hp.Tm} {W : World} (n : Nd N B g s TL W) :
    W.cell? ⟨N, 2, none⟩ = some (.int .u32 s.me) ∧ W.cell? ⟨N, 3, none⟩ = some (.int .u32 s.seq) ∧ W.cell? ⟨N, 4, none⟩ = some (.int .u64 s.sil) ∧ W.cell? ⟨N, 7, none⟩ = some (.pointer (some ⟨g.x.T, 0, none⟩)) ∧ W.cell? ⟨B, 0, none⟩ = some (.int .u64 s.now) := by
  obtain ⟨_, n2, n3, n4, n5, _⟩ := n.nn.cr.nd.cell
  obtain ⟨e1, e2, e3, _⟩ := n.nn.eq
  obtain ⟨c0, _⟩ := n.ac.blk.cell
  rw [← e1, ← e2, ← e3, ← n.now]
  exact ⟨n2, n3, n4, n5, c0⟩

theorem sameN_drop (s : St) (r : Int) : SameN s (s.drop r) := ⟨rfl, rfl, rfl, rfl, rfl, rfl, rfl, rfl, rfl, rfl, rfl, rfl, rfl, rfl, rfl⟩
theorem sameN_send (s : St) (t : Int) (p : Pkt) (L : List (Int × Int)) : SameN s (s.send t p L) := ⟨rfl, rfl, rfl, rfl, rfl, rfl, rfl, rfl, rfl, rfl, rfl, rfl, rfl, rfl, rfl⟩
theorem Nd.tab {N B : Nat} {g : NdG} {s : St} {TL : List Hp.Tm} {W : World} (n : Nd N B g s TL W) : Tab s.me g.x.T (TIn g.x.T g.M g.ff g.gg s.A) s.A W :=
  ⟨g.M, g.ff, g.gg, by rw [← n.nn.eq.self]; exact n.nn.cr.tb, fun _ h => h⟩
theorem Nd.tableP {N B : Nat} {g : NdG} {s : St} {TL : List Hp.Tm} {W W' : World} (n : Nd N B g s TL W) {A' : List Rt} (h : Tab s.me g.x.T (ext (TIn g.x.T g.M g.ff g.gg s.A) W.heap.size W'.heap.size) A' W') (hf : Fx (TIn g.x.T g.M g.ff g.gg s.A) W W') : NdP N B g s { s with A := A' } TL W W' := by
  obtain ⟨M', ff', gg', p, q⟩ := n.table h hf
  exact ⟨_, p, q, rfl⟩
theorem Tab.ext {me : Int} {T : Nat} {S : Nat → Prop} {A : List Rt} {W : World} (h : Tab me T S A W) (a b : Nat) : Tab me T (Go.Proofs.YtakaadcpaeiccabGreat.ext S a b) A W := by
  obtain ⟨M, f, g, h1, h2⟩ := h
  exact ⟨M, f, g, h1, fun k hk => .inl (h2 k hk)⟩
theorem N_find {N B : Nat} {g : NdG} {s : St} {TL : List Hp.Tm} {w : World} (n : Nd N B g s TL w) (d now : Int) (hd : U32 d) :
    Calls Tryz.prog 79 #[.pointer (some ⟨g.x.T, 0, none⟩), .int .u32 d, .int .u64 now] w fun e w' => ∃ ao c, e = .returned (.tuple #[rtV (findL s.A d now).1 (.slice ao (findL s.A d now).1.bef.length c), .bool (findL s.A d now).2]) ∧ Below w.heap.size w w' := by
  refine (Find_any s.me g.x.T _ s.A d now hd w n.tab).mono ?_
  rintro e w' ⟨v', rfl, h1, h2⟩
  obtain ⟨ao, c, rfl, _⟩ := row_form h1
  exact ⟨ao, c, rfl, h2⟩
theorem N_num {N B : Nat} {g : NdG} {s : St} {TL : List Hp.Tm} {w : World} (n : Nd N B g s TL w) (d : Int) (hd : U32 d) :
    Calls Tryz.prog 157 #[.pointer (some ⟨g.x.T, 0, none⟩), .int .u32 d] w fun e w' => e = .returned (.tuple #[.int .u32 (numL s.A d), .bool (lineOf s.A d).isSome]) ∧ w' = w := tnum_any n.nn.cr.tb d hd
end Go.Proofs.YtakaadcpaeiccabGreat

namespace Go.Proofs.YtakaadcpaeiccabGreat
open Go.RowKit Go.Maps

theorem cell_later {W W' : World} {b i : Nat} {v : Value} (h : W.cell? ⟨b, i, none⟩ = some v) (hb : Below W.heap.size W W') (hl : b < W.heap.size) : W'.cell? ⟨b, i, none⟩ = some v := (hb.cell (p := ⟨b, i, none⟩) hl).trans h
/-- The cells that the hearing of a packet reads. -/
@[reducible] def HC (N B T C : Nat) (me seq sil now : Int) (p : Pkt) (W : World) : Prop :=
  (W.cell? ⟨N, 2, none⟩ = some (.int .u32 me) ∧ W.cell? ⟨N, 3, none⟩ = some (.int .u32 seq) ∧ W.cell? ⟨N, 4, none⟩ = some (.int .u64 sil) ∧ W.cell? ⟨N, 7, none⟩ = some (.pointer (some ⟨T, 0, none⟩)) ∧ W.cell? ⟨B, 0, none⟩ = some (.int .u64 now)) ∧
  (W.cell? ⟨C, 0, none⟩ = some (.int .i64 p.ttl) ∧ W.cell? ⟨C, 1, none⟩ = some (.int .i64 p.kind) ∧ W.cell? ⟨C, 2, none⟩ = some (.int .i64 p.hops) ∧ W.cell? ⟨C, 3, none⟩ = some (.bool p.unk) ∧ W.cell? ⟨C, 4, none⟩ = some (.int .u32 p.id) ∧ W.cell? ⟨C, 5, none⟩ = some (.int .u32 p.dest) ∧ W.cell? ⟨C, 6, none⟩ = some (.int .u32 p.dseq) ∧ W.cell? ⟨C, 7, none⟩ = some (.int .u32 p.frm) ∧ W.cell? ⟨C, 8, none⟩ = some (.int .u32 p.fseq) ∧ W.cell? ⟨C, 9, none⟩ = some (.int .u32 p.life) ∧ W.cell? ⟨C, 10, none⟩ = some (.slice p.la p.ln p.lc) ∧ W.cell? ⟨C, 11, none⟩ = some (.string p.pay))
@[reducible] def HB (N B T C : Nat) (me seq sil now : Int) (p : Pkt) (W0 W : World) : Prop := HC N B T C me seq sil now p W ∧ Below W0.heap.size W0 W
theorem HC.of {N B C : Nat} {g : NdG} {s : St} {TL : List Hp.Tm} {p : Pkt} {W : World} (n : Nd N B g s TL W) (h : PB p C W) : HC N B g.x.T C s.me s.seq s.sil s.now p W := ⟨n.cell, h.cell⟩
theorem HB.drew {N B T C : Nat} {me seq sil now : Int} {p : Pkt} {W0 W : World} (h : HB N B T C me seq sil now p W0 W) : HB N B T C me seq sil now p W0 W.drew := ⟨h.1, h.2.drew⟩
theorem HB.mk' {N B C : Nat} {g : NdG} {s : St} {TL : List Hp.Tm} {p : Pkt} {W0 W : World} (n : Nd N B g s TL W0) (h : PB p C W0) (hb : Below W0.heap.size W0 W) : HB N B g.x.T C s.me s.seq s.sil s.now p W0 W := ⟨.of (n.later hb) (h.below hb), hb⟩
theorem HB.alloc {N B T C : Nat} {me seq sil now : Int} {p : Pkt} {W0 W : World} (hk : Hid (∀ W5, Below W0.heap.size W0 W5 → HB N B T C me seq sil now p W0 W5)) (h : HB N B T C me seq sil now p W0 W) (o : Obj) : HB N B T C me seq sil now p W0 (W.alloc o) := hk.out _ (h.2.alloc h.2.size _)
/-- A block of the call's own, which is of none of the kinds of a node. -/
theorem Up.box {B C : Nat} {F F' : Nat → Prop} {p : Pkt} {a b : World} (u : Up B F F' a b) (h : PB p C a) (hn : ¬ F C) : PB p C b := u.block C _ h hn (.inl (pk_offA p))
theorem Nd.new {N B : Nat} {g : NdG} {s : St} {TL : List Hp.Tm} {W : World} (n : Nd N B g s TL W) {k : Nat} (hk : W.heap.size ≤ k) : ¬ Ft N g s k := fun h => by have := n.nn.lt h; omega

theorem below_set7 {n D : Nat} {a w : World} (h : Below n a w) (hD : n ≤ D) (v0 v1 v2 v3 v4 v5 v6 : Value) : Below n a (((((((w.setCell ⟨D, 0, none⟩ v0).setCell ⟨D, 1, none⟩ v1).setCell ⟨D, 2, none⟩ v2).setCell ⟨D, 3, none⟩ v3).setCell ⟨D, 4, none⟩ v4).setCell ⟨D, 5, none⟩ v5).setCell ⟨D, 6, none⟩ v6) :=
  ((((((h.setCell (p := ⟨D, 0, none⟩) hD _).setCell (p := ⟨D, 1, none⟩) hD _).setCell (p := ⟨D, 2, none⟩) hD _).setCell (p := ⟨D, 3, none⟩) hD _).setCell (p := ⟨D, 4, none⟩) hD _).setCell (p := ⟨D, 5, none⟩) hD _).setCell (p := ⟨D, 6, none⟩) hD _
theorem LnB.set7 {D : Nat} {x y : Rt} {u v : Value} {w : World} (h : LnB D x u w) : LnB D y v (((((((w.setCell ⟨D, 0, none⟩ (.int .u32 y.dest)).setCell ⟨D, 1, none⟩ (.int .u32 y.seq)).setCell ⟨D, 2, none⟩ (.int .i64 y.hops)).setCell ⟨D, 3, none⟩ (.int .u32 y.next)).setCell ⟨D, 4, none⟩ (.bool y.valid)).setCell ⟨D, 5, none⟩ (.int .u64 y.exp)).setCell ⟨D, 6, none⟩ v) := by
  unfold LnB at h ⊢
  simp [World.setCell, Array.getElem?_modify, h]
/-- What 'Find' answers, of a node within a call, whatever was made beside it. -/
theorem N_findP {N B : Nat} {g : NdG} {s : St} {TL : List Hp.Tm} {W1 : World} (n0 : Nd N B g s TL W1) (d now : Int) (hd : U32 d) {y : Rt} {fd : Bool} (hr : findL s.A d now = (y, fd)) :
    ∀ W5, Below W1.heap.size W1 W5 → Calls Tryz.prog 79 #[.pointer (some ⟨g.x.T, 0, none⟩), .int .u32 d, .int .u64 now] W5 fun e w' => ∃ ao c, e = .returned (.tuple #[rtV y (.slice ao y.bef.length c), .bool fd]) ∧ Below W1.heap.size W1 w' ∧ ∀ x u, LnB W1.heap.size x u W5 → LnB W1.heap.size x u w' := by
  intro W5 h5
  have h := N_find (n0.later h5) d now hd
  rw [hr] at h
  refine h.mono ?_
  rintro e w' ⟨ao, c, rfl, hb⟩
  exact ⟨ao, c, rfl, h5.trans (hb.mono h5.size), fun x u h => h.later hb⟩
theorem zero_new (W : World) : LnB W.heap.size zeroR (.slice none 0 0) (W.alloc (.cells #[.int .u32 0, .int .u32 0, .int .i64 0, .int .u32 0, .bool false, .int .u64 0, .slice none 0 0] 38)).drew := heap_alloc_new W _
/-- What lies in memory behind 'Find'. -/
def FoundP (y : Rt) (fd : Bool) (W1 : World) (pv fv : Value) (W : World) : Prop := ∃ D ao c, pv = .pointer (some ⟨D, 0, none⟩) ∧ fv = .bool fd ∧ LnB D y (.slice ao y.bef.length c) W ∧ W1.heap.size ≤ D ∧ Below W1.heap.size W1 W

theorem found_alloc {y : Rt} {fd : Bool} {W1 w2 : World} {ao : Option Addr} {c : Nat} (hb : Below W1.heap.size W1 w2) : FoundP y fd W1 (.pointer (some ⟨w2.heap.size, 0, none⟩)) (.bool fd) (w2.alloc (.cells #[.int .u32 y.dest, .int .u32 y.seq, .int .i64 y.hops, .int .u32 y.next, .bool y.valid, .int .u64 y.exp, .slice ao y.bef.length c] 38)) :=
  ⟨_, ao, c, rfl, rfl, heap_alloc_new _ _, hb.size, hb.alloc hb.size _⟩
theorem found_set {y x : Rt} {u : Value} {fd : Bool} {W1 w2 : World} {ao : Option Addr} {c : Nat} (hb : Below W1.heap.size W1 w2) (hD : Hid (LnB W1.heap.size x u w2)) : FoundP y fd W1 (.pointer (some ⟨W1.heap.size, 0, none⟩)) (.bool fd) (((((((w2.setCell ⟨W1.heap.size, 0, none⟩ (.int .u32 y.dest)).setCell ⟨W1.heap.size, 1, none⟩ (.int .u32 y.seq)).setCell ⟨W1.heap.size, 2, none⟩ (.int .i64 y.hops)).setCell ⟨W1.heap.size, 3, none⟩ (.int .u32 y.next)).setCell ⟨W1.heap.size, 4, none⟩ (.bool y.valid)).setCell ⟨W1.heap.size, 5, none⟩ (.int .u64 y.exp)).setCell ⟨W1.heap.size, 6, none⟩ (.slice ao y.bef.length c)) :=
  ⟨_, ao, c, rfl, rfl, hD.out.set7, Nat.le_refl _, below_set7 hb (Nat.le_refl _) _ _ _ _ _ _ _⟩
theorem HB.kAlloc {N B T C : Nat} {me seq sil now : Int} {p : Pkt} {W0 W : World} {o : Obj} (hk : Hid (∀ W5, Below W0.heap.size W0 W5 → HB N B T C me seq sil now p W0 W5)) (h : Below W0.heap.size W0 W) : HB N B T C me seq sil now p W0 (W.alloc o) := hk.out _ (h.alloc h.size _)
theorem HB.kAllocDrew {N B T C : Nat} {me seq sil now : Int} {p : Pkt} {W0 : World} {o : Obj} (hk : Hid (∀ W5, Below W0.heap.size W0 W5 → HB N B T C me seq sil now p W0 W5)) : HB N B T C me seq sil now p W0 (W0.alloc o).drew := hk.out _ ((Below.refl _ _).alloc (Nat.le_refl _) _).drew
theorem HB.kSet7 {N B T C : Nat} {me seq sil now : Int} {p : Pkt} {W0 W : World} {v0 v1 v2 v3 v4 v5 v6 : Value} (hk : Hid (∀ W5, Below W0.heap.size W0 W5 → HB N B T C me seq sil now p W0 W5)) (h : Below W0.heap.size W0 W) : HB N B T C me seq sil now p W0 (((((((W.setCell ⟨W0.heap.size, 0, none⟩ v0).setCell ⟨W0.heap.size, 1, none⟩ v1).setCell ⟨W0.heap.size, 2, none⟩ v2).setCell ⟨W0.heap.size, 3, none⟩ v3).setCell ⟨W0.heap.size, 4, none⟩ v4).setCell ⟨W0.heap.size, 5, none⟩ v5).setCell ⟨W0.heap.size, 6, none⟩ v6) := hk.out _ (below_set7 h (Nat.le_refl _) _ _ _ _ _ _ _)
end Go.Proofs.YtakaadcpaeiccabGreat

namespace Go.Proofs.YtakaadcpaeiccabGreat
open Go.RowKit Go.Maps

theorem PB.setTtl {C : Nat} {p : Pkt} {W : World} (h : PB p C W) (t : Int) : PB { p with ttl := t } C (W.setCell ⟨C, 0, none⟩ (.int .i64 t)) := by
  unfold PB at h ⊢
  simp [World.setCell, Array.getElem?_modify, h]
theorem Pkt.Wf.num {p : Pkt} (h : p.Wf) : U32 p.id ∧ U32 p.dest ∧ U32 p.dseq ∧ U32 p.frm ∧ U32 p.fseq ∧ U32 p.life := by
  obtain ⟨_, _, _, _, _, _, h1, h2, h3, h4, h5, h6, h7, h8, h9, h10, h11, h12, _, _⟩ := h
  unfold U32
  omega
end Go.Proofs.YtakaadcpaeiccabGreat

namespace Go.Proofs.YtakaadcpaeiccabGreat
open Go.RowKit Go.Maps

theorem SameN.trans {a b c : St} (h : SameN a b) (k : SameN b c) : SameN a c := by
  obtain ⟨h1, h2, h3, h4, h5, h6, h7, h8, h9, h10, h11, h12, h13, h14, h15⟩ := h
  obtain ⟨k1, k2, k3, k4, k5, k6, k7, k8, k9, k10, k11, k12, k13, k14, k15⟩ := k
  exact ⟨k1.trans h1, k2.trans h2, k3.trans h3, k4.trans h4, k5.trans h5, k6.trans h6, k7.trans h7, k8.trans h8, k9.trans h9, k10.trans h10, k11.trans h11, k12.trans h12, k13.trans h13, k14.trans h14, k15.trans h15⟩
/-- The same cells behind a call. -/
theorem HC.next {N B C : Nat} {g g' : NdG} {s s' : St} {TL' : List Hp.Tm} {p : Pkt} {W : World} (n : Nd N B g' s' TL' W) (h : PB p C W) (t : g'.x.T = g.x.T) (h1 : s'.me = s.me) (h2 : s'.seq = s.seq) (h3 : s'.sil = s.sil) (h4 : s'.now = s.now) : HC N B g.x.T C s.me s.seq s.sil s.now p W := by
  have := HC.of n h
  rw [t, h1, h2, h3, h4] at this
  exact this
theorem Nd.drew {N B : Nat} {g : NdG} {s : St} {TL : List Hp.Tm} {W : World} (n : Nd N B g s TL W) : Nd N B g s TL W.drew := n.later (Below.refl _ _).drew
end Go.Proofs.YtakaadcpaeiccabGreat

namespace Go.Proofs.YtakaadcpaeiccabGreat
open Go.RowKit Go.Maps

theorem rt_offA (y : Rt) (v : Value) : offA (rtBox y v) := ⟨fun c e => (by cases e), fun c e => (by cases e), fun c e => (by cases e), fun c e => (by cases e), fun c e => (by cases e)⟩
/-- The cells that a walk reads with a route at hand. -/
@[reducible] def HR (N B T C D : Nat) (me seq sil now : Int) (p : Pkt) (y : Rt) (v : Value) (W : World) : Prop :=
  HC N B T C me seq sil now p W ∧ W.cell? ⟨D, 0, none⟩ = some (.int .u32 y.dest) ∧ W.cell? ⟨D, 1, none⟩ = some (.int .u32 y.seq) ∧ W.cell? ⟨D, 2, none⟩ = some (.int .i64 y.hops) ∧ W.cell? ⟨D, 3, none⟩ = some (.int .u32 y.next) ∧ W.cell? ⟨D, 4, none⟩ = some (.bool y.valid) ∧ W.cell? ⟨D, 5, none⟩ = some (.int .u64 y.exp) ∧ W.cell? ⟨D, 6, none⟩ = some v
theorem HC.at {N B C T : Nat} {g : NdG} {s : St} {TL : List Hp.Tm} {p : Pkt} {W : World} {me seq sil now : Int} (n : Nd N B g s TL W) (h : PB p C W) (t : g.x.T = T) (h1 : s.me = me) (h2 : s.seq = seq) (h3 : s.sil = sil) (h4 : s.now = now) : HC N B T C me seq sil now p W := by
  subst t h1 h2 h3 h4
  exact HC.of n h
theorem HR.at {N B C D T : Nat} {g : NdG} {s : St} {TL : List Hp.Tm} {p : Pkt} {y : Rt} {v : Value} {W : World} {me seq sil now : Int} (n : Nd N B g s TL W) (h : PB p C W) (hD : LnB D y v W) (t : g.x.T = T) (h1 : s.me = me) (h2 : s.seq = seq) (h3 : s.sil = sil) (h4 : s.now = now) : HR N B T C D me seq sil now p y v W := ⟨HC.at n h t h1 h2 h3 h4, hD.cell⟩
theorem Up.keepR {B D : Nat} {F F' : Nat → Prop} {y : Rt} {v : Value} {a b : World} (u : Up B F F' a b) (h : LnB D y v a) (hn : ¬ F D) : LnB D y v b ∧ ¬ F' D := u.keep h hn (rt_offA y v)
theorem findL_ok {A : List Rt} (hA : ∀ y ∈ A, y.Ok) (d now : Int) : (findL A d now).1.Ok ∨ (findL A d now).2 = false := by
  unfold findL
  cases hl : lineOf A d with
  | none => exact .inr rfl
  | some y =>
    by_cases hc : (y.valid && decide (now < y.exp)) = true
    · left
      have := hA y (lineOf_some hl).1
      simp_all
    · right
      by_cases hv : y.valid = true
      · by_cases he : now < y.exp
        · simp [hv, he] at hc
        · simp [hv, he]
      · simp [hv]

end Go.Proofs.YtakaadcpaeiccabGreat

namespace Go.Proofs.YtakaadcpaeiccabGreat
open Go.RowKit Go.Maps

theorem HoldsL.nil {W W' : World} {p : Pkt} (h : HoldsL W p []) : HoldsL W' p [] := ⟨h.1, fun j hj => by simp at hj⟩
theorem u64add {a c : Int} (h : 0 ≤ a ∧ a ≤ 4611686018427387904) (hc : 0 ≤ c ∧ c ≤ 8589934592) : IntKind.u64.wrap (a + c) = a + c := by
  simp only [IntKind.wrap, IntKind.signed, IntKind.bits]
  simp
  omega
end Go.Proofs.YtakaadcpaeiccabGreat

namespace Go.Proofs.YtakaadcpaeiccabGreat
open Go.RowKit Go.Maps

theorem AcM.comes {B base : Nat} {a : AcV} {nws : List (Bool × Int × Int)} {frs cms cms' : List (Int × ByteArray)} {drs : List Int} {W W7 : World} (h : AcM B base a nws frs cms drs W) {v7 : Value} (ho : W7.ownsRow base 56 2 v7 cms'.length (FrC cms')) (hg : W.grownBy W7 a.cam.ownBlock) :
    AcB B a W7 ∧ AcM B base { a with cam := v7 } nws frs cms' drs (W7.setCell ⟨B, 5, none⟩ v7) ∧ Fx (AcIn B a) W (W7.setCell ⟨B, 5, none⟩ v7) := by
  have hBr : a.cam.ownBlock ≠ some B := row_not h.cam h.blk (fun c e => (by cases e))
  have hB7 : AcB B a W7 := h.blk.block (hg.block _ h.blk.lt (fun e => hBr e.symm))
  have hg2 : W7.grownBy (W7.setCell ⟨B, 5, none⟩ v7) (some B) := grown_cellOf (grown_self _ (some B)) 5 v7
  have f1 := h.drp.kept hg (rows_apart h.drp h.cam (by decide))
  have f2 := h.frm.kept hg (rows_apart h.frm h.cam (by decide))
  have f3 := h.wrt.kept hg (rows_apart h.wrt h.cam (by decide))
  exact ⟨hB7, ⟨hB7.setCam v7, f3.kept hg2 (.inr (row_not f3 hB7 (fun c e => (by cases e)))), f2.kept hg2 (.inr (row_not f2 hB7 (fun c e => (by cases e)))), ho.kept hg2 (.inr (row_not ho hB7 (fun c e => (by cases e)))), f1.kept hg2 (.inr (row_not f1 hB7 (fun c e => (by cases e))))⟩,
    grown_Fx (Fx.grown hg fun k e => .inr (.inr (.inr (.inl e)))) hg2 fun i _ e => by cases e; exact .inl rfl⟩
end Go.Proofs.YtakaadcpaeiccabGreat

namespace Go.Proofs.YtakaadcpaeiccabGreat
open Go.RowKit Go.Maps

end Go.Proofs.YtakaadcpaeiccabGreat
