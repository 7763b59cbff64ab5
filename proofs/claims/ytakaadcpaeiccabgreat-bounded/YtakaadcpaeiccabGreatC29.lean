import Derived.Test.YtakaadcpaeiccabGreatC20
import Derived.Test.YtakaadcpaeiccabGreatC23
import Derived.Test.YtakaadcpaeiccabGreatC28
import Derived.Test.YtakaadcpaeiccabGreatC21
import Derived.Deep.RegionHeld3
namespace Go.Proofs.YtakaadcpaeiccabGreat
open Go.RowKit Go.Maps

/-! A whole node in memory, with what it does in a call. -/
theorem MapI.block {W W' : World} {M : Nat} {f : Int → Option Nat} {s : Nat} (h : MapI W M f s) (he : W'.heap[M]? = W.heap[M]?) : MapI W' M f s := by
  obtain ⟨D, ⟨es, clock, hb, Ft, hs, hD⟩, h2, h3⟩ := h
  exact ⟨D, ⟨es, clock, he.trans hb, Ft, hs, hD⟩, h2, h3⟩
theorem MapI.obj {W : World} {M : Nat} {f : Int → Option Nat} {s : Nat} (h : MapI W M f s) : ∃ es cl, W.heap[M]? = some (.map es cl) := by
  obtain ⟨D, ⟨es, cl, hm, _⟩, _⟩ := h
  exact ⟨es, cl, hm⟩
theorem TR.at {base T M : Nat} {last : Int} {h : List Hp.Tm} {v : Value} {W W' : World} (r : TR base T M last h v W) (h1 : W'.heap[T]? = W.heap[T]?) (h2 : W'.heap[M]? = W.heap[M]?) (h3 : ∀ k, v.ownBlock = some k → W'.heap[k]? = W.heap[k]?) : TR base T M last h v W' := by
  obtain ⟨f, p1, p2⟩ := r.map
  exact ⟨h1.trans r.blk, row_at r.row h3, ⟨f, p1.block h2, p2⟩, r.ok, r.bT, r.bM⟩
/-- The timer of a search. -/
def tmOf (q : Sr) : Hp.Tm := (q.due, q.id, q.dest)
/-- What of a node lies beside its table and its diary. -/
structure RsM (x : NdV) (h : Int → Option Nat) (u : Int → Value) (Mt : Nat) (hp : List Hp.Tm) (tv : Value) (s : St) (TL : List Hp.Tm) (W : World) : Prop where
  sn : SnM x.Ms s.tn s.mem W
  sr : SrM x.Msr h u s.Q W
  tm : TR 0 x.Tm Mt s.tl hp tv W
  hpo : Hp.Heap hp
  pm : hp.Perm TL
  pc : W.ownsRow 0 35 1 x.pc s.pc.length (s.pc.map (Value.int .u64))
def RsIn (x : NdV) (h : Int → Option Nat) (u : Int → Value) (Mt : Nat) (tv : Value) (s : St) (k : Nat) : Prop :=
  k = x.Ms ∨ SrIn x.Msr h u s.Q k ∨ k = x.Tm ∨ k = Mt ∨ tv.ownBlock = some k ∨ x.pc.ownBlock = some k
theorem RsM.kept {x : NdV} {h : Int → Option Nat} {u : Int → Value} {Mt : Nat} {hp : List Hp.Tm} {tv : Value} {s : St} {TL : List Hp.Tm} {W W' : World} (r : RsM x h u Mt hp tv s TL W) (he : ∀ k, RsIn x h u Mt tv s k → W'.heap[k]? = W.heap[k]?) : RsM x h u Mt hp tv s TL W' :=
  ⟨r.sn.block (he _ (.inl rfl)), r.sr.kept fun k hk => he k (.inr (.inl hk)), r.tm.at (he _ (.inr (.inr (.inl rfl)))) (he _ (.inr (.inr (.inr (.inl rfl))))) fun k hk => he k (.inr (.inr (.inr (.inr (.inl hk))))), r.hpo, r.pm, row_at r.pc fun k hk => he k (.inr (.inr (.inr (.inr (.inr hk)))))⟩
theorem RsM.lt {x : NdV} {h : Int → Option Nat} {u : Int → Value} {Mt : Nat} {hp : List Hp.Tm} {tv : Value} {s : St} {TL : List Hp.Tm} {W : World} (r : RsM x h u Mt hp tv s TL W) {k : Nat} (hk : RsIn x h u Mt tv s k) : k < W.heap.size := by
  rcases hk with rfl | hk | rfl | rfl | hk | hk
  · exact r.sn.lt
  · exact r.sr.lt hk
  · exact r.tm.blk.lt
  · obtain ⟨f, p1, _⟩ := r.tm.map
    exact p1.lt
  · exact (r.tm.row.lt k hk).2
  · exact (r.pc.lt k hk).2
/-- The object is of none of the kinds of the rest; maps aside. -/
def offR (o : Obj) : Prop := (∀ c, o ≠ .cells c 177 (0, 0)) ∧ (∀ c, o ≠ .cells c 9 (0, 0)) ∧ (∀ c, o ≠ .cells c 165 (0, 0)) ∧ (∀ c, o ≠ .cells c 254 (0, 0)) ∧ ∀ c, o ≠ .cells c 35 (0, 0)
theorem RsM.kind {x : NdV} {h : Int → Option Nat} {u : Int → Value} {Mt : Nat} {hp : List Hp.Tm} {tv : Value} {s : St} {TL : List Hp.Tm} {W : World} (r : RsM x h u Mt hp tv s TL W) {k : Nat} (hk : RsIn x h u Mt tv s k) :
    ∃ o, W.heap[k]? = some o ∧ (((k = x.Ms ∨ k = x.Msr ∨ k = Mt) ∧ ∃ es cl, o = .map es cl) ∨ (¬ offR o ∧ Go.Proofs.YtakaadcpaeiccabGreat.offT o ∧ offA o ∧ (∀ c, o ≠ .cells c 131 (0, 0)) ∧ ∀ es cl, o ≠ .map es cl)) := by
  have hT : ∀ {t : TypeId} (c : Array Value), (t = 177 ∨ t = 9 ∨ t = 165 ∨ t = 254 ∨ t = 35) → ¬ offR (.cells c t (0, 0)) ∧ Go.Proofs.YtakaadcpaeiccabGreat.offT (.cells c t (0, 0)) ∧ offA (.cells c t (0, 0)) ∧ (∀ d, (Obj.cells c t (0, 0)) ≠ .cells d 131 (0, 0)) ∧ ∀ es cl, (Obj.cells c t (0, 0)) ≠ .map es cl := by
    rintro t c (rfl | rfl | rfl | rfl | rfl) <;>
    exact ⟨by simp [offR], ⟨fun c e => (by cases e), fun c e => (by cases e), fun c e => (by cases e)⟩, ⟨fun c e => (by cases e), fun c e => (by cases e), fun c e => (by cases e), fun c e => (by cases e), fun c e => (by cases e)⟩, fun c e => (by cases e), fun c d e => (by cases e)⟩
  rcases hk with rfl | hk | rfl | rfl | hk | hk
  · obtain ⟨es, cl, hm⟩ := r.sn.obj
    exact ⟨_, hm, .inl ⟨.inl rfl, _, _, rfl⟩⟩
  · obtain ⟨o, ho, ⟨rfl, es, cl, rfl⟩ | ⟨c, rfl⟩ | ⟨c, rfl⟩⟩ := r.sr.kind hk
    · exact ⟨_, ho, .inl ⟨.inr (.inl rfl), _, _, rfl⟩⟩
    · exact ⟨_, ho, .inr (hT c (.inl rfl))⟩
    · exact ⟨_, ho, .inr (hT c (.inr (.inl rfl)))⟩
  · exact ⟨_, r.tm.blk, .inr (hT _ (.inr (.inr (.inl rfl))))⟩
  · obtain ⟨f, p1, _⟩ := r.tm.map
    obtain ⟨es, cl, hm⟩ := p1.obj
    exact ⟨_, hm, .inl ⟨.inr (.inr rfl), _, _, rfl⟩⟩
  · obtain ⟨c, hc⟩ := row_obj r.tm.row hk
    exact ⟨_, hc, .inr (hT c (.inr (.inr (.inr (.inl rfl)))))⟩
  · obtain ⟨c, hc⟩ := row_obj r.pc hk
    exact ⟨_, hc, .inr (hT c (.inr (.inr (.inr (.inr rfl)))))⟩

/-- How a node lies in memory. -/
structure NdG where
  x : NdV
  a : AcV
  M : Nat
  ff : Int → Option Nat
  gg : Int → Value
  sz : Nat
  h : Int → Option Nat
  u : Int → Value
  Mt : Nat
  hp : List Hp.Tm
  tv : Value
/-- The plain numbers of a node's own cells. -/
structure NdE (x : NdV) (s : St) : Prop where
  self : x.self = s.me
  seq : x.seq = s.seq
  sil : x.sil = s.sil
  lreq : x.lreq = s.lreq
  ldat : x.ldat = s.ldat
  tn : x.tn = s.tn
  own : x.own = s.own
  cnt : x.cnt = s.cnt
  lk : x.lk = s.lk
/-- A node between two calls. -/
structure Nn (N : Nat) (g : NdG) (s : St) (TL : List Hp.Tm) (W : World) : Prop where
  cr : NdM N g.x g.M g.ff g.gg s.A s.f g.sz W
  eq : NdE g.x s
  rs : RsM g.x g.h g.u g.Mt g.hp g.tv s TL W
  nod : [g.M, g.x.Mo, g.x.Ms, g.x.Msr, g.Mt].Nodup
  siz : g.sz ≤ 1000000
/-- Its blocks. -/
def Ft (N : Nat) (g : NdG) (s : St) (k : Nat) : Prop := NdIn N g.x g.M g.ff g.gg s.A k ∨ RsIn g.x g.h g.u g.Mt g.tv s k
/-- A node within a call. -/
structure Nd (N B : Nat) (g : NdG) (s : St) (TL : List Hp.Tm) (W : World) : Prop where
  nn : Nn N g s TL W
  ac : AcM B (B + 1) g.a s.nws s.frs s.cms s.drs W
  now : g.a.now = s.now
  rep : g.a.rep = s.rep

/-- What a call may turn, and where what it leaves may lie: F the blocks of the node; what is done in the call grows besides. -/
structure Up (B : Nat) (F F' : Nat → Prop) (w w' : World) : Prop where
  sub : ∀ k, F' k → F k ∨ (w.heap.size ≤ k ∧ k < w'.heap.size)
  os : w'.os = w.os
  tape : w'.tape = w.tape
  output : w'.output = w.output
  size : w.heap.size ≤ w'.heap.size
  block : ∀ k o, w.heap[k]? = some o → ¬ F k → (offA o ∨ k < B) → w'.heap[k]? = some o
theorem some_lt {W : World} {k : Nat} {o : Obj} (h : W.heap[k]? = some o) : k < W.heap.size := (Array.getElem?_eq_some_iff.1 h).1
theorem Up.trans {B : Nat} {F F' F'' : Nat → Prop} {a b c : World} (p : Up B F F' a b) (q : Up B F' F'' b c) : Up B F F'' a c := by
  have h1 := p.size
  have h2 := q.size
  refine ⟨fun k hk => ?_, q.os.trans p.os, q.tape.trans p.tape, q.output.trans p.output, Nat.le_trans h1 h2, fun k o ho hn hA => ?_⟩
  · rcases q.sub k hk with h | h
    · rcases p.sub k h with h | h
      · exact .inl h
      · exact .inr (by omega)
    · exact .inr (by omega)
  · refine q.block k o (p.block k o ho hn hA) (fun h => ?_) hA
    rcases p.sub k h with h | h
    · exact hn h
    · have := some_lt ho
      omega
theorem Up.below {B : Nat} {F : Nat → Prop} {a b : World} (h : Below a.heap.size a b) : Up B F F a b :=
  ⟨fun _ h => .inl h, h.os, h.tape, h.output, h.size, fun k _ ho _ _ => (h.block k (some_lt ho)).trans ho⟩
theorem Up.refl (B : Nat) (F : Nat → Prop) (a : World) : Up B F F a a := .below (Below.refl _ _)
theorem Up.of {B : Nat} {S F F' : Nat → Prop} {a b : World} (h : Fx S a b) (hs : ∀ k o, S k → a.heap[k]? = some o → F k ∨ (¬ offA o ∧ B ≤ k)) (sub : ∀ k, F' k → F k ∨ (a.heap.size ≤ k ∧ k < b.heap.size)) : Up B F F' a b :=
  ⟨sub, h.os, h.tape, h.output, h.size, fun k o ho hn hA => (h.block k (some_lt ho) fun hk => by
    rcases hs k o hk ho with h | ⟨h1, h2⟩
    · exact hn h
    · rcases hA with h | h
      · exact h1 h
      · omega).trans ho⟩
theorem Up.toFx {B : Nat} {F F' : Nat → Prop} {a b : World} (h : Up B F F' a b) (hB : a.heap.size ≤ B) : Fx F a b :=
  ⟨h.os, h.tape, h.output, h.size, fun k hk hn => by
    obtain ⟨o, ho⟩ : ∃ o, a.heap[k]? = some o := ⟨_, Array.getElem?_eq_getElem hk⟩
    rw [ho]
    exact h.block k o ho hn (.inr (by omega))⟩
theorem Up.keep {B : Nat} {F F' : Nat → Prop} {a b : World} (p : Up B F F' a b) {k : Nat} {o : Obj} (ho : a.heap[k]? = some o) (hn : ¬ F k) (hA : offA o) : b.heap[k]? = some o ∧ ¬ F' k :=
  ⟨p.block k o ho hn (.inl hA), fun h => (p.sub k h).elim hn (by have := some_lt ho; omega)⟩

theorem MT.kind {me : Int} {T M : Nat} {f : Int → Option Nat} {g : Int → Value} {A : List Rt} {W : World} (h : MT me T M f g A W) {k : Nat} (hk : TIn T M f g A k) :
    ∃ o, W.heap[k]? = some o ∧ ((k = M ∧ ∃ es cl, o = .map es cl) ∨ (offA o ∧ offR o ∧ (∀ c, o ≠ .cells c 131 (0, 0)) ∧ ∀ es cl, o ≠ .map es cl)) := by
  have hT : ∀ {t : TypeId} (c : Array Value), (t = 158 ∨ t = 38 ∨ t = 34) → offA (.cells c t (0, 0)) ∧ offR (.cells c t (0, 0)) ∧ (∀ d, (Obj.cells c t (0, 0)) ≠ .cells d 131 (0, 0)) ∧ ∀ es cl, (Obj.cells c t (0, 0)) ≠ .map es cl := by
    rintro t c (rfl | rfl | rfl) <;>
    exact ⟨⟨fun c e => (by cases e), fun c e => (by cases e), fun c e => (by cases e), fun c e => (by cases e), fun c e => (by cases e)⟩, ⟨fun c e => (by cases e), fun c e => (by cases e), fun c e => (by cases e), fun c e => (by cases e), fun c e => (by cases e)⟩, fun c e => (by cases e), fun c d e => (by cases e)⟩
  rcases hk with rfl | rfl | ⟨y, hy, hk | hk⟩
  · exact ⟨_, h.blk, .inr (hT _ (.inl rfl))⟩
  · obtain ⟨es, cl, hm⟩ := h.map.obj
    exact ⟨_, hm, .inl ⟨rfl, _, _, rfl⟩⟩
  · obtain ⟨B, p1, p2⟩ := h.ln y hy
    rw [p1] at hk
    cases hk
    exact ⟨_, p2, .inr (hT _ (.inr (.inl rfl)))⟩
  · obtain ⟨c, hc⟩ := row_obj (h.row y hy) hk
    exact ⟨_, hc, .inr (hT c (.inr (.inr rfl)))⟩
theorem Nn.lt {N : Nat} {g : NdG} {s : St} {TL : List Hp.Tm} {W : World} (n : Nn N g s TL W) {k : Nat} (hk : Ft N g s k) : k < W.heap.size := by
  rcases hk with (rfl | rfl | hk) | hk
  · exact n.cr.nd.lt
  · exact n.cr.mo.lt
  · exact n.cr.tb.lt hk
  · exact n.rs.lt hk
/-- None of a node's blocks is of a kind of what it does in a call. -/
theorem Nn.offA {N : Nat} {g : NdG} {s : St} {TL : List Hp.Tm} {W : World} (n : Nn N g s TL W) {k : Nat} (hk : Ft N g s k) : ∃ o, W.heap[k]? = some o ∧ Go.Proofs.YtakaadcpaeiccabGreat.offA o := by
  rcases hk with (rfl | rfl | hk) | hk
  · exact ⟨_, n.cr.nd, nd_offA _⟩
  · obtain ⟨es, cl, hm⟩ := n.cr.mo.obj
    exact ⟨_, hm, map_offA es cl⟩
  · obtain ⟨o, ho, ⟨_, es, cl, rfl⟩ | ⟨h, _⟩⟩ := n.cr.tb.kind hk
    · exact ⟨_, ho, map_offA es cl⟩
    · exact ⟨o, ho, h⟩
  · obtain ⟨o, ho, ⟨_, es, cl, rfl⟩ | ⟨_, _, h, _⟩⟩ := n.rs.kind hk
    · exact ⟨_, ho, map_offA es cl⟩
    · exact ⟨o, ho, h⟩
theorem Nn.maps {N : Nat} {g : NdG} {s : St} {TL : List Hp.Tm} {W : World} (n : Nn N g s TL W) {k : Nat} (hk : k = g.x.Ms ∨ k = g.x.Msr ∨ k = g.Mt) : k ≠ g.M ∧ k ≠ g.x.Mo := by
  have h := n.nod
  simp only [List.nodup_cons, List.mem_cons, List.not_mem_nil, or_false, not_or] at h
  obtain ⟨⟨_, h1, h2, h3⟩, ⟨h4, h5, h6⟩, _⟩ := h
  rcases hk with rfl | rfl | rfl
  · exact ⟨Ne.symm h1, Ne.symm h4⟩
  · exact ⟨Ne.symm h2, Ne.symm h5⟩
  · exact ⟨Ne.symm h3, Ne.symm h6⟩
/-- The rest lies apart from the table and the diary. -/
theorem Nn.apart {N : Nat} {g : NdG} {s : St} {TL : List Hp.Tm} {W : World} (n : Nn N g s TL W) {k : Nat} (hk : RsIn g.x g.h g.u g.Mt g.tv s k) : ¬ NdIn N g.x g.M g.ff g.gg s.A k := by
  obtain ⟨o, ho, ⟨h, es, cl, rfl⟩ | ⟨h1, h2, h3, h4, h5⟩⟩ := n.rs.kind hk
  · obtain ⟨q1, q2⟩ := n.maps h
    rintro (rfl | rfl | hc)
    · rw [show W.heap[k]? = _ from n.cr.nd] at ho
      cases ho
    · exact q2 rfl
    · exact n.cr.tb.not q1 ho (map_offT es cl) hc
  · rintro (rfl | rfl | hc)
    · rw [show W.heap[k]? = _ from n.cr.nd] at ho
      exact h4 _ (Option.some.inj ho).symm
    · obtain ⟨es, cl, hm⟩ := n.cr.mo.obj
      rw [hm] at ho
      exact h5 _ _ (Option.some.inj ho).symm
    · refine n.cr.tb.not (fun e => ?_) ho h2 hc
      subst e
      obtain ⟨es, cl, hm⟩ := n.cr.tb.map.obj
      rw [hm] at ho
      exact h5 _ _ (Option.some.inj ho).symm
/-- A node stays where none of its blocks has turned. -/
theorem Nn.kept {N : Nat} {g : NdG} {s : St} {TL : List Hp.Tm} {W W' : World} (n : Nn N g s TL W) (he : ∀ k, Ft N g s k → W'.heap[k]? = W.heap[k]?) : Nn N g s TL W' :=
  ⟨⟨n.cr.nd.block (he _ (.inl (.inl rfl))), n.cr.mo.block (he _ (.inl (.inr (.inl rfl)))), n.cr.tb.kept fun k hk => he k (.inl (.inr (.inr hk))), n.cr.ne⟩, n.eq, n.rs.kept fun k hk => he k (.inr hk), n.nod, n.siz⟩
theorem Nn.later {N : Nat} {g : NdG} {s : St} {TL : List Hp.Tm} {W W' : World} (n : Nn N g s TL W) (hb : Below W.heap.size W W') : Nn N g s TL W' := n.kept fun k hk => hb.block k (n.lt hk)
theorem Nd.later {N B : Nat} {g : NdG} {s : St} {TL : List Hp.Tm} {W W' : World} (n : Nd N B g s TL W) (hb : Below W.heap.size W W') : Nd N B g s TL W' := ⟨n.nn.later hb, n.ac.later hb, n.now, n.rep⟩
/-- A state with the same node. -/
def SameN (s s' : St) : Prop := s'.me = s.me ∧ s'.seq = s.seq ∧ s'.sil = s.sil ∧ s'.lreq = s.lreq ∧ s'.ldat = s.ldat ∧ s'.A = s.A ∧ s'.mem = s.mem ∧ s'.tn = s.tn ∧ s'.f = s.f ∧ s'.own = s.own ∧ s'.cnt = s.cnt ∧ s'.Q = s.Q ∧ s'.tl = s.tl ∧ s'.pc = s.pc ∧ s'.lk = s.lk
theorem Nn.same {N : Nat} {g : NdG} {s s' : St} {TL : List Hp.Tm} {W : World} (n : Nn N g s TL W) (h : SameN s s') (a : AcV) : Nn N { g with a := a } s' TL W := by
  obtain ⟨h1, h2, h3, h4, h5, h6, h7, h8, h9, h10, h11, h12, h13, h14, h15⟩ := h
  obtain ⟨c, e, r, d, z⟩ := n
  obtain ⟨e1, e2, e3, e4, e5, e6, e7, e8, e9⟩ := e
  obtain ⟨r1, r2, r3, r4, r5, r6⟩ := r
  exact ⟨by rw [h6, h9]; exact c, ⟨by rw [h1]; exact e1, by rw [h2]; exact e2, by rw [h3]; exact e3, by rw [h4]; exact e4, by rw [h5]; exact e5, by rw [h8]; exact e6, by rw [h10]; exact e7, by rw [h11]; exact e8, by rw [h15]; exact e9⟩, ⟨by rw [h7, h8]; exact r1, by rw [h12]; exact r2, by rw [h13]; exact r3, r4, r5, by rw [h14]; exact r6⟩, d, z⟩
theorem Ft.same {N : Nat} {g : NdG} {s s' : St} (h : SameN s s') (a : AcV) (k : Nat) : Ft N { g with a := a } s' k ↔ Ft N g s k := by
  obtain ⟨h1, h2, h3, h4, h5, h6, h7, h8, h9, h10, h11, h12, h13, h14, h15⟩ := h
  unfold Ft RsIn
  rw [h6, h12]
theorem AcM.notN {N B : Nat} {g : NdG} {s : St} {TL : List Hp.Tm} {W : World} {base : Nat} {a : AcV} {nws : List (Bool × Int × Int)} {frs cms : List (Int × ByteArray)} {drs : List Int} (h : AcM B base a nws frs cms drs W) (n : Nn N g s TL W) {k : Nat} (hk : Ft N g s k) : ¬ AcIn B a k := by
  obtain ⟨o, ho, hA⟩ := n.offA hk
  exact h.not ho hA
theorem AcM.kinds {B base : Nat} {a : AcV} {nws : List (Bool × Int × Int)} {frs cms : List (Int × ByteArray)} {drs : List Int} {W : World} (h : AcM B base a nws frs cms drs W) {k : Nat} (hk : AcIn B a k) {o : Obj} (ho : W.heap[k]? = some o) : ¬ offA o := fun hA => h.not ho hA hk
/-- What is done in the call has grown. -/
theorem Nd.act {N B : Nat} {g : NdG} {s s' : St} {TL : List Hp.Tm} {W W' : World} (n : Nd N B g s TL W) {a' : AcV} (h : AcM B (B + 1) a' s'.nws s'.frs s'.cms s'.drs W') (hf : Fx (AcIn B g.a) W W') (he : SameN s s') (h1 : a'.now = s'.now) (h2 : a'.rep = s'.rep) :
    Nd N B { g with a := a' } s' TL W' ∧ Up B (Ft N g s) (Ft N { g with a := a' } s') W W' := by
  refine ⟨⟨(n.nn.kept fun k hk => hf.block k (n.nn.lt hk) (n.ac.notN n.nn hk)).same he a', h, h1, h2⟩, .of hf (fun k o hk ho => .inr ⟨n.ac.kinds hk ho, n.ac.ge hk⟩) fun k hk => .inl ((Ft.same he a' k).1 hk)⟩
/-- The table has turned. -/
theorem Nd.table {N B : Nat} {g : NdG} {s : St} {TL : List Hp.Tm} {W W' : World} (n : Nd N B g s TL W) {A' : List Rt} (h : Tab s.me g.x.T (ext (TIn g.x.T g.M g.ff g.gg s.A) W.heap.size W'.heap.size) A' W') (hf : Fx (TIn g.x.T g.M g.ff g.gg s.A) W W') :
    ∃ M' ff' gg', Nd N B { g with M := M', ff := ff', gg := gg' } { s with A := A' } TL W' ∧ Up B (Ft N g s) (Ft N { g with M := M', ff := ff', gg := gg' } { s with A := A' }) W W' := by
  obtain ⟨M', ff', gg', hM, hS⟩ := h
  have hrs : ∀ k, RsIn g.x g.h g.u g.Mt g.tv s k → ¬ TIn g.x.T g.M g.ff g.gg s.A k := fun k hk hc => n.nn.apart hk (.inr (.inr hc))
  have hM' : ∀ k, k < W.heap.size → ¬ TIn g.x.T g.M g.ff g.gg s.A k → M' ≠ k := by
    rintro k hk hn rfl
    rcases hS M' (.inr (.inl rfl)) with h | h
    · exact hn h
    · omega
  have hMo : ¬ TIn g.x.T g.M g.ff g.gg s.A g.x.Mo := by
    obtain ⟨es, cl, hm⟩ := n.nn.cr.mo.obj
    exact n.nn.cr.tb.not (Ne.symm n.nn.cr.ne) hm (map_offT es cl)
  have hN : ¬ TIn g.x.T g.M g.ff g.gg s.A N := n.nn.cr.tb.not (fun e => by
    obtain ⟨es, cl, hm⟩ := n.nn.cr.tb.map.obj
    rw [← e, show W.heap[N]? = _ from n.nn.cr.nd] at hm
    cases hm) n.nn.cr.nd (nd_offT _)
  have hnd := n.nn.nod
  simp only [List.nodup_cons, List.mem_cons, List.not_mem_nil, or_false, not_or] at hnd
  obtain ⟨_, hnd⟩ := hnd
  have hac : ∀ k, AcIn B g.a k → ¬ TIn g.x.T g.M g.ff g.gg s.A k := fun k hk hc => n.ac.notN n.nn (.inl (.inr (.inr hc))) hk
  refine ⟨M', ff', gg', ⟨⟨⟨n.nn.cr.nd.block (hf.block _ n.nn.cr.nd.lt hN), n.nn.cr.mo.block (hf.block _ n.nn.cr.mo.lt hMo), by rw [n.nn.eq.self]; exact hM, hM' _ n.nn.cr.mo.lt hMo⟩, ⟨n.nn.eq.self, n.nn.eq.seq, n.nn.eq.sil, n.nn.eq.lreq, n.nn.eq.ldat, n.nn.eq.tn, n.nn.eq.own, n.nn.eq.cnt, n.nn.eq.lk⟩, ?_, ?_, n.nn.siz⟩, n.ac.kept fun k hk => hf.block k (n.ac.lt hk) (hac k hk), n.now, n.rep⟩, .of hf (fun k o hk _ => .inl (.inl (.inr (.inr hk)))) fun k hk => ?_⟩
  · have := n.nn.rs.kept (W' := W') fun k hk => hf.block k (n.nn.rs.lt hk) (hrs k hk)
    exact ⟨this.sn, this.sr, this.tm, this.hpo, this.pm, this.pc⟩
  · have q1 := hM' _ n.nn.cr.mo.lt hMo
    have q2 := hM' _ (n.nn.rs.lt (.inl rfl)) (hrs _ (.inl rfl))
    have q3 := hM' _ (n.nn.rs.lt (.inr (.inl (.inl rfl)))) (hrs _ (.inr (.inl (.inl rfl))))
    have q4 := hM' _ (n.nn.rs.lt (.inr (.inr (.inr (.inl rfl))))) (hrs _ (.inr (.inr (.inr (.inl rfl)))))
    simp only [List.nodup_cons, List.mem_cons, List.not_mem_nil, or_false, not_or]
    exact ⟨⟨q1, q2, q3, q4⟩, hnd⟩
  · rcases hk with (rfl | rfl | hk) | hk
    · exact .inl (.inl (.inl rfl))
    · exact .inl (.inl (.inr (.inl rfl)))
    · rcases hS k hk with h | h
      · exact .inl (.inl (.inr (.inr h)))
      · exact .inr h
    · exact .inl (.inr hk)
/-- What lies beside the table and the diary has turned, with the node's own cells. -/
theorem Nd.rest {N B : Nat} {g : NdG} {s s' : St} {TL TL' : List Hp.Tm} {W W' : World} (n : Nd N B g s TL W) {x' : NdV} {h' : Int → Option Nat} {u' : Int → Value} {Mt' : Nat} {hp' : List Hp.Tm} {tv' : Value}
    (hx : NdB N x' W') (hT : x'.T = g.x.T) (hMo : x'.Mo = g.x.Mo) (he : NdE x' s') (hr : RsM x' h' u' Mt' hp' tv' s' TL' W') (hf : Fx (fun k => k = N ∨ RsIn g.x g.h g.u g.Mt g.tv s k) W W')
    (sub : ∀ k, RsIn x' h' u' Mt' tv' s' k → RsIn g.x g.h g.u g.Mt g.tv s k ∨ (W.heap.size ≤ k ∧ k < W'.heap.size)) (hm : x'.Ms = g.x.Ms ∧ x'.Msr = g.x.Msr ∧ Mt' = g.Mt)
    (hs : s'.me = s.me ∧ s'.A = s.A ∧ s'.f = s.f ∧ s'.nws = s.nws ∧ s'.frs = s.frs ∧ s'.cms = s.cms ∧ s'.drs = s.drs ∧ s'.now = s.now ∧ s'.rep = s.rep) :
    Nd N B { g with x := x', h := h', u := u', Mt := Mt', hp := hp', tv := tv' } s' TL' W' ∧ Up B (Ft N g s) (Ft N { g with x := x', h := h', u := u', Mt := Mt', hp := hp', tv := tv' } s') W W' := by
  obtain ⟨s1, s2, s3, s4, s5, s6, s7, s8, s9⟩ := hs
  obtain ⟨m1, m2, m3⟩ := hm
  have hcr : ∀ k, NdIn N g.x g.M g.ff g.gg s.A k → k ≠ N → ¬ (k = N ∨ RsIn g.x g.h g.u g.Mt g.tv s k) := fun k hk hne h => h.elim hne fun h => n.nn.apart h hk
  have hTN : ∀ k, TIn g.x.T g.M g.ff g.gg s.A k → k ≠ N := by
    rintro k hk rfl
    exact n.nn.cr.tb.not (fun e => by
      obtain ⟨es, cl, hm⟩ := n.nn.cr.tb.map.obj
      rw [← e, show W.heap[k]? = _ from n.nn.cr.nd] at hm
      cases hm) n.nn.cr.nd (nd_offT _) hk
  have hMoN : g.x.Mo ≠ N := Ne.symm (nd_mo n.nn.cr.nd n.nn.cr.mo)
  refine ⟨⟨⟨⟨hx, ?_, ?_, ?_⟩, he, hr, ?_, n.nn.siz⟩, ?_, by rw [s8]; exact n.now, by rw [s9]; exact n.rep⟩, .of hf (fun k o hk _ => .inl (hk.elim (fun h => .inl (.inl h)) .inr)) fun k hk => ?_⟩
  · rw [s3, show ({ g with x := x', h := h', u := u', Mt := Mt', hp := hp', tv := tv' } : NdG).x.Mo = g.x.Mo from hMo]
    exact n.nn.cr.mo.block (hf.block _ n.nn.cr.mo.lt (hcr _ (.inr (.inl rfl)) hMoN))
  · rw [s2, show ({ g with x := x', h := h', u := u', Mt := Mt', hp := hp', tv := tv' } : NdG).x.T = g.x.T from hT, show ({ g with x := x', h := h', u := u', Mt := Mt', hp := hp', tv := tv' } : NdG).x.self = g.x.self from by rw [n.nn.eq.self, ← s1]; exact he.self]
    exact n.nn.cr.tb.kept fun k hk => hf.block k (n.nn.cr.tb.lt hk) (hcr _ (.inr (.inr hk)) (hTN k hk))
  · rw [show ({ g with x := x', h := h', u := u', Mt := Mt', hp := hp', tv := tv' } : NdG).x.Mo = g.x.Mo from hMo]
    exact n.nn.cr.ne
  · have := n.nn.nod
    dsimp only
    rw [hMo, m1, m2, m3]
    exact this
  · rw [s4, s5, s6, s7]
    exact n.ac.kept fun k hk => hf.block k (n.ac.lt hk) fun h => n.ac.notN n.nn (h.elim (fun h => .inl (.inl h)) .inr) hk
  · rcases hk with (rfl | rfl | hk) | hk
    · exact .inl (.inl (.inl rfl))
    · exact .inl (.inl (.inr (.inl hMo)))
    · rw [s2] at hk
      dsimp only at hk
      rw [hT] at hk
      exact .inl (.inl (.inr (.inr hk)))
    · exact (sub k hk).imp_left .inr
/-- A node's own cells have turned. -/
theorem Nd.cells {N B : Nat} {g : NdG} {s s' : St} {TL : List Hp.Tm} {W W' : World} (n : Nd N B g s TL W) {x' : NdV} (hx : NdB N x' W') (hf : Fx (fun k => k = N) W W') (he : NdE x' s') (hm : x'.T = g.x.T ∧ x'.Mo = g.x.Mo ∧ x'.Ms = g.x.Ms ∧ x'.Msr = g.x.Msr ∧ x'.Tm = g.x.Tm ∧ x'.pc = g.x.pc)
    (hs : s'.me = s.me ∧ s'.A = s.A ∧ s'.f = s.f ∧ s'.nws = s.nws ∧ s'.frs = s.frs ∧ s'.cms = s.cms ∧ s'.drs = s.drs ∧ s'.now = s.now ∧ s'.rep = s.rep) (hs2 : s'.mem = s.mem ∧ s'.tn = s.tn ∧ s'.Q = s.Q ∧ s'.tl = s.tl ∧ s'.pc = s.pc) :
    Nd N B { g with x := x' } s' TL W' ∧ Up B (Ft N g s) (Ft N { g with x := x' } s') W W' := by
  obtain ⟨m1, m2, m3, m4, m5, m6⟩ := hm
  obtain ⟨t1, t2, t3, t4, t5⟩ := hs2
  have hin : ∀ k, RsIn x' g.h g.u g.Mt g.tv s' k → RsIn g.x g.h g.u g.Mt g.tv s k := by
    intro k hk
    unfold RsIn at hk ⊢
    rw [m3, m4, m5, m6, t3] at hk
    exact hk
  have hr := n.nn.rs.kept (W' := W') fun k hk => hf.block k (n.nn.rs.lt hk) fun e => n.nn.apart hk (.inl e)
  refine n.rest hx m1 m2 he ⟨?_, ?_, ?_, hr.hpo, hr.pm, ?_⟩ (hf.mono fun k h => .inl h) (fun k hk => .inl (hin k hk)) ⟨m3, m4, rfl⟩ hs
  · rw [m3, t1, t2]; exact hr.sn
  · rw [m4, t3]; exact hr.sr
  · rw [m5, t4]; exact hr.tm
  · rw [m6, t5]; exact hr.pc
end Go.Proofs.YtakaadcpaeiccabGreat

namespace Go.Proofs.YtakaadcpaeiccabGreat
open Go.RowKit Go.Maps

/-- What a call leaves of a node. -/
def NdP (N B : Nat) (g : NdG) (s s' : St) (TL' : List Hp.Tm) (w w' : World) : Prop := ∃ g', Nd N B g' s' TL' w' ∧ Up B (Ft N g s) (Ft N g' s') w w' ∧ Hid (g'.x.T = g.x.T)
theorem hide {P : Prop} (h : P) : Hid P := h
theorem NdP.trans {N B : Nat} {g : NdG} {s s' s'' : St} {TL' TL'' : List Hp.Tm} {a b c : World} (p : NdP N B g s s' TL' a b) (q : ∀ g', Nd N B g' s' TL' b → Up B (Ft N g s) (Ft N g' s') a b → g'.x.T = g.x.T → NdP N B g' s' s'' TL'' b c) : NdP N B g s s'' TL'' a c := by
  obtain ⟨g1, n1, u1, t1⟩ := p
  obtain ⟨g2, n2, u2, t2⟩ := q g1 n1 u1 t1.out
  exact ⟨g2, n2, u1.trans u2, t2.out.trans t1.out⟩
theorem NdP.refl {N B : Nat} {g : NdG} {s : St} {TL : List Hp.Tm} {w w' : World} (n : Nd N B g s TL w) (hb : Below w.heap.size w w') : NdP N B g s s TL w w' := ⟨g, n.later hb, .below hb, rfl⟩
theorem NdP.pre {N B : Nat} {g : NdG} {s s' : St} {TL' : List Hp.Tm} {a b c : World} (hb : Below a.heap.size a b) (p : NdP N B g s s' TL' b c) : NdP N B g s s' TL' a c := by
  obtain ⟨g1, n1, u1, t1⟩ := p
  exact ⟨g1, n1, (Up.below hb).trans u1, t1⟩
theorem NdP.post {N B : Nat} {g : NdG} {s s' : St} {TL' : List Hp.Tm} {a b c : World} (p : NdP N B g s s' TL' a b) (hb : Below b.heap.size b c) : NdP N B g s s' TL' a c := by
  obtain ⟨g1, n1, u1, t1⟩ := p
  exact ⟨g1, n1.later hb, u1.trans (.below hb), t1⟩
theorem Nd.base {N B : Nat} {g : NdG} {s : St} {TL : List Hp.Tm} {W : World} (n : Nd N B g s TL W) : B + 1 ≤ W.heap.size := n.ac.blk.lt
theorem Nd.cell {N B : Nat} {g : NdG} {s : St} {TL : List Hp.Tm} {W : World} (n : Nd N B g s TL W) :
    W.cell? ⟨N, 2, none⟩ = some (.int .u32 s.me) ∧ W.cell? ⟨N, 3, none⟩ = some (.int .u32 s.seq) ∧ W.cell? ⟨N, 4, none⟩ = some (.int .u64 s.sil) ∧ W.cell? ⟨N, 7, none⟩ = some (.pointer (some ⟨g.x.T, 0, none⟩)) ∧ W.cell? ⟨B, 0, none⟩ = some (.int .u64 s.now) := by
  obtain ⟨_, n2, n3, n4, n5, _⟩ := n.nn.cr.nd.cell
  obtain ⟨e1, e2, e3, _⟩ := n.nn.eq
  obtain ⟨c0, _⟩ := n.ac.blk.cell
  rw [← e1, ← e2, ← e3, ← n.now]
  exact ⟨n2, n3, n4, n5, c0⟩

theorem sameN_drop (s : St) (r : Int) : SameN s (s.drop r) := ⟨rfl, rfl, rfl, rfl, rfl, rfl, rfl, rfl, rfl, rfl, rfl, rfl, rfl, rfl, rfl⟩
theorem sameN_send (s : St) (t : Int) (p : Pkt) (L : List (Int × Int)) : SameN s (s.send t p L) := ⟨rfl, rfl, rfl, rfl, rfl, rfl, rfl, rfl, rfl, rfl, rfl, rfl, rfl, rfl, rfl⟩
theorem sameN_lose (s : St) (t : Int) (L : List (Int × Int)) : SameN s (s.lose t L) := ⟨rfl, rfl, rfl, rfl, rfl, rfl, rfl, rfl, rfl, rfl, rfl, rfl, rfl, rfl, rfl⟩
theorem N_drop {N B : Nat} {g : NdG} {s : St} {TL : List Hp.Tm} {w : World} (n : Nd N B g s TL w) (r : Int) (hd : s.drs.length ≤ 1000000) :
    Calls Tryz.prog 92 #[.pointer (some ⟨B, 0, none⟩), .int .i64 r] w fun e w' => e = .returned (.tuple #[]) ∧ NdP N B g s (s.drop r) TL w w' := by
  refine (drop_any B (B + 1) g.a s.nws s.frs s.cms s.drs r w n.ac n.base hd).mono ?_
  rintro e w' ⟨v7, rfl, h1, h2⟩
  obtain ⟨p, q⟩ := n.act (s' := s.drop r) h1 h2 (sameN_drop s r) n.now n.rep
  exact ⟨rfl, _, p, q, rfl⟩
theorem N_send {N B : Nat} {g : NdG} {s : St} {TL : List Hp.Tm} {w : World} (n : Nd N B g s TL w) (t : Int) (p : Pkt) (hp : p.Wf) (L : List (Int × Int)) (hL : HoldsL w p L) (hd : s.frs.length ≤ 1000000) :
    Calls Tryz.prog 80 #[.pointer (some ⟨B, 0, none⟩), .int .u32 t, p.val] w fun e w' => e = .returned (.tuple #[]) ∧ NdP N B g s (s.send t p L) TL w w' := by
  refine (send_any B (B + 1) g.a s.nws s.frs s.cms s.drs t p hp L w n.ac n.base hd hL).mono ?_
  rintro e w' ⟨v7, rfl, h1, h2⟩
  obtain ⟨p, q⟩ := n.act (s' := s.send t p L) h1 h2 (sameN_send s t p L) n.now n.rep
  exact ⟨rfl, _, p, q, rfl⟩
theorem N_lose {N B : Nat} {g : NdG} {s : St} {TL : List Hp.Tm} {w : World} (n : Nd N B g s TL w) (t : Int) (ao : Option Addr) (c : Nat) (L : List (Int × Int)) (hn : L.length ≤ 65536) (hL : HoldsA w ao L) (hd : s.frs.length ≤ 1000000) :
    Calls Tryz.prog 137 #[.pointer (some ⟨B, 0, none⟩), .int .u32 t, .slice ao L.length c] w fun e w' => e = .returned (.tuple #[]) ∧ NdP N B g s (s.lose t L) TL w w' := by
  refine (lose_any B (B + 1) g.a s.nws s.frs s.cms s.drs t ao c L w n.ac n.base hd hn hL).mono ?_
  rintro e w' ⟨v7, rfl, h1, h2⟩
  obtain ⟨p, q⟩ := n.act (s' := s.lose t L) h1 h2 (sameN_lose s t L) n.now n.rep
  exact ⟨rfl, _, p, q, rfl⟩
theorem Nd.tab {N B : Nat} {g : NdG} {s : St} {TL : List Hp.Tm} {W : World} (n : Nd N B g s TL W) : Tab s.me g.x.T (TIn g.x.T g.M g.ff g.gg s.A) s.A W :=
  ⟨g.M, g.ff, g.gg, by rw [← n.nn.eq.self]; exact n.nn.cr.tb, fun _ h => h⟩
theorem Nd.tableP {N B : Nat} {g : NdG} {s : St} {TL : List Hp.Tm} {W W' : World} (n : Nd N B g s TL W) {A' : List Rt} (h : Tab s.me g.x.T (ext (TIn g.x.T g.M g.ff g.gg s.A) W.heap.size W'.heap.size) A' W') (hf : Fx (TIn g.x.T g.M g.ff g.gg s.A) W W') : NdP N B g s { s with A := A' } TL W W' := by
  obtain ⟨M', ff', gg', p, q⟩ := n.table h hf
  exact ⟨_, p, q, rfl⟩
theorem Tab.ext {me : Int} {T : Nat} {S : Nat → Prop} {A : List Rt} {W : World} (h : Tab me T S A W) (a b : Nat) : Tab me T (Go.Proofs.YtakaadcpaeiccabGreat.ext S a b) A W := by
  obtain ⟨M, f, g, h1, h2⟩ := h
  exact ⟨M, f, g, h1, fun k hk => .inl (h2 k hk)⟩
theorem N_update {N B : Nat} {g : NdG} {s : St} {TL : List Hp.Tm} {w : World} (n : Nd N B g s TL w) (d q h nx e : Int) (hd : U32 d) (hs : U32 q) (hh : I64 h) (hn : U32 nx) (he : U64 e) :
    Calls Tryz.prog 161 #[.pointer (some ⟨g.x.T, 0, none⟩), .int .u32 d, .int .u32 q, .int .i64 h, .int .u32 nx, .int .u64 e] w fun r w' => r = .returned (.int .i64 (updL s.me s.A d q h nx e).2) ∧ NdP N B g s { s with A := (updL s.me s.A d q h nx e).1 } TL w w' := by
  refine (Update_any s.me g.x.T _ s.A d q h nx e hd hs hh hn he w n.tab).mono ?_
  rintro r w' ⟨rfl, h1, h2⟩
  exact ⟨rfl, n.tableP h1 h2⟩
theorem N_use {N B : Nat} {g : NdG} {s : St} {TL : List Hp.Tm} {w : World} (n : Nd N B g s TL w) (d e : Int) (hd : U32 d) (he : U64 e) :
    Calls Tryz.prog 81 #[.pointer (some ⟨g.x.T, 0, none⟩), .int .u32 d, .int .u64 e] w fun r w' => r = .returned (.tuple #[]) ∧ NdP N B g s { s with A := useL s.A d e } TL w w' := by
  refine (Use_any s.me g.x.T _ s.A d e hd he w n.tab).mono ?_
  rintro r w' ⟨rfl, h1, h2⟩
  exact ⟨rfl, n.tableP (h1.ext _ _) h2⟩
theorem N_before {N B : Nat} {g : NdG} {s : St} {TL : List Hp.Tm} {w : World} (n : Nd N B g s TL w) (d nb : Int) (hd : U32 d) (hn : U32 nb) :
    Calls Tryz.prog 182 #[.pointer (some ⟨g.x.T, 0, none⟩), .int .u32 d, .int .u32 nb] w fun r w' => r = .returned (.tuple #[]) ∧ NdP N B g s { s with A := befL s.A d nb } TL w w' := by
  refine (Before_any s.me g.x.T _ s.A d nb hd hn w n.tab).mono ?_
  rintro r w' ⟨rfl, h1, h2⟩
  exact ⟨rfl, n.tableP h1 h2⟩
theorem N_find {N B : Nat} {g : NdG} {s : St} {TL : List Hp.Tm} {w : World} (n : Nd N B g s TL w) (d now : Int) (hd : U32 d) :
    Calls Tryz.prog 79 #[.pointer (some ⟨g.x.T, 0, none⟩), .int .u32 d, .int .u64 now] w fun e w' => ∃ ao c, e = .returned (.tuple #[rtV (findL s.A d now).1 (.slice ao (findL s.A d now).1.bef.length c), .bool (findL s.A d now).2]) ∧ Below w.heap.size w w' := by
  refine (Find_any s.me g.x.T _ s.A d now hd w n.tab).mono ?_
  rintro e w' ⟨v', rfl, h1, h2⟩
  obtain ⟨ao, c, rfl, _⟩ := row_form h1
  exact ⟨ao, c, rfl, h2⟩
theorem N_num {N B : Nat} {g : NdG} {s : St} {TL : List Hp.Tm} {w : World} (n : Nd N B g s TL w) (d : Int) (hd : U32 d) :
    Calls Tryz.prog 157 #[.pointer (some ⟨g.x.T, 0, none⟩), .int .u32 d] w fun e w' => e = .returned (.tuple #[.int .u32 (numL s.A d), .bool (lineOf s.A d).isSome]) ∧ w' = w := tnum_any n.nn.cr.tb d hd
theorem N_loseOne {N B : Nat} {g : NdG} {s : St} {TL : List Hp.Tm} {w : World} (n : Nd N B g s TL w) (t d : Int) (hd : U32 d) (hl : s.frs.length ≤ 1000000) :
    Calls Tryz.prog 129 #[.pointer (some ⟨N, 0, none⟩), .pointer (some ⟨B, 0, none⟩), .int .u32 t, .int .u32 d] w fun e w' => e = .returned (.tuple #[]) ∧ NdP N B g s (s.loseOne t d) TL w w' := by
  refine (loseOne_any N B (B + 1) g.x g.a s.nws s.frs s.cms s.drs t d hd w n.nn.cr n.ac n.base hl).mono ?_
  rintro e w' ⟨v7, rfl, h1, h2⟩
  obtain ⟨p, q⟩ := n.act (s' := s.loseOne t d) h1 h2 (sameN_lose s t _) n.now n.rep
  exact ⟨rfl, _, p, q, rfl⟩
theorem N_seenHas {N B : Nat} {g : NdG} {s : St} {TL : List Hp.Tm} {w : World} (n : Nd N B g s TL w) (q : Int × Int) (hq : QOk q) (now : Int) (hn : 0 ≤ now) :
    Calls Tryz.prog 160 #[.pointer (some ⟨N, 8, none⟩), encQ q, .int .u64 now] w fun e w' => e = .returned (.bool (seenHas s.mem q now)) ∧ Below w.heap.size w w' := by
  have h := n.nn.rs.sn
  rw [← n.nn.eq.tn] at h
  exact seen_has N g.x s.mem q hq now hn w n.nn.cr.nd h
theorem N_seenAdd {N B : Nat} {g : NdG} {s : St} {TL : List Hp.Tm} {w : World} (n : Nd N B g s TL w) (q : Int × Int) (hq : QOk q) (til : Int) (h0 : 0 ≤ til) (hm : ∀ e ∈ s.mem, e.til ≤ til) (htn : s.tn ≤ 4611686018427387904) :
    Calls Tryz.prog 156 #[.pointer (some ⟨N, 8, none⟩), encQ q, .int .u64 til] w fun e w' => e = .returned (.tuple #[]) ∧ NdP N B g s { s with mem := seenAdd s.mem q til s.tn, tn := s.tn + 1 } TL w w' := by
  have h := n.nn.rs.sn
  rw [← n.nn.eq.tn] at h htn
  refine (seen_add N g.x s.mem q hq til h0 hm htn w n.nn.cr.nd h).mono ?_
  rintro e w' ⟨rfl, h1, h2, h3⟩
  rw [n.nn.eq.tn] at h1 h2
  obtain ⟨e1, e2, e3, e4, e5, e6, e7, e8, e9⟩ := n.nn.eq
  have hr := n.nn.rs
  have hne : ∀ k, RsIn g.x g.h g.u g.Mt g.tv s k → k ≠ g.x.Ms → ¬ (k = N ∨ k = g.x.Ms) := fun k hk h1 h2 => h2.elim (fun e => n.nn.apart hk (.inl e)) h1
  have hnd := n.nn.nod
  simp only [List.nodup_cons, List.mem_cons, List.not_mem_nil, or_false, not_or] at hnd
  obtain ⟨_, _, ⟨d1, d2⟩, _⟩ := hnd
  have hMap : ∀ {k : Nat} {o : Obj}, w.heap[k]? = some o → (∀ es cl, o ≠ .map es cl) → k ≠ g.x.Ms := by
    rintro k o ho hn rfl
    obtain ⟨es, cl, hm⟩ := hr.sn.obj
    rw [hm] at ho
    exact hn _ _ (Option.some.inj ho).symm
  have hkeep : ∀ {k : Nat}, RsIn g.x g.h g.u g.Mt g.tv s k → k ≠ g.x.Ms → w'.heap[k]? = w.heap[k]? := fun hk h => h3.block _ (hr.lt hk) (hne _ hk h)
  have hSr : ∀ k, SrIn g.x.Msr g.h g.u s.Q k → k ≠ g.x.Ms := by
    intro k hk
    obtain ⟨o, ho, ⟨rfl, _⟩ | ⟨c, rfl⟩ | ⟨c, rfl⟩⟩ := hr.sr.kind hk
    · exact Ne.symm d1
    · exact hMap ho (fun _ _ h => by cases h)
    · exact hMap ho (fun _ _ h => by cases h)
  obtain ⟨p, q⟩ := n.rest (s' := { s with mem := seenAdd s.mem q til s.tn, tn := s.tn + 1 }) (TL' := TL) h1 rfl rfl ⟨e1, e2, e3, e4, e5, rfl, e7, e8, e9⟩
    ⟨h2, hr.sr.kept fun k hk => hkeep (.inr (.inl hk)) (hSr k hk), hr.tm.at (hkeep (.inr (.inr (.inl rfl))) (hMap hr.tm.blk (fun _ _ h => by cases h))) (hkeep (.inr (.inr (.inr (.inl rfl)))) (Ne.symm d2)) (fun k hk => hkeep (.inr (.inr (.inr (.inr (.inl hk))))) (by
      obtain ⟨c, hc⟩ := row_obj hr.tm.row hk
      exact hMap hc (fun _ _ h => by cases h))), hr.hpo, hr.pm, row_at hr.pc fun k hk => hkeep (.inr (.inr (.inr (.inr (.inr hk))))) (by
      obtain ⟨c, hc⟩ := row_obj hr.pc hk
      exact hMap hc (fun _ _ h => by cases h))⟩
    (h3.mono fun k h => h.elim .inl fun h => .inr (.inl h)) (fun k hk => .inl hk) ⟨rfl, rfl, rfl⟩ ⟨rfl, rfl, rfl, rfl, rfl, rfl, rfl, rfl, rfl⟩
  exact ⟨rfl, _, p, q, rfl⟩
end Go.Proofs.YtakaadcpaeiccabGreat
