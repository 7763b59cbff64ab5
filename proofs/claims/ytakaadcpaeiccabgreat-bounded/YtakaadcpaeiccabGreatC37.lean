import Derived.Test.YtakaadcpaeiccabGreatC36
import Derived.Deep.QuietTactic
import Derived.Test.YtakaadcpaeiccabGreatC32
import Derived.Test.YtakaadcpaeiccabGreatC15
import Derived.Test.YtakaadcpaeiccabGreatC34
import Derived.Test.YtakaadcpaeiccabGreatC23
namespace Go.Proofs.YtakaadcpaeiccabGreat
open Go.RowKit Go.Maps

/-! What lies round each call of a node: the lock, the beginning, the end. -/
/-- Bytes that lie in a block of bytes. -/
def VB (W : World) (v : Value) (xs : List Int) : Prop := RestV W v xs ∧ ∀ b o n c, v = .slice (some ⟨b, o, none⟩) n c → ∃ cs mk, W.heap[b]? = some (.cells cs 5 mk)
theorem VB.at {W W' : World} {v : Value} {xs : List Int} (h : VB W v xs) (he : ∀ b o n c, v = .slice (some ⟨b, o, none⟩) n c → W'.heap[b]? = W.heap[b]?) : VB W' v xs := by
  obtain ⟨⟨hb, h1⟩, h2⟩ := h
  refine ⟨⟨hb, ?_⟩, fun b o n c hv => ?_⟩
  · rcases h1 with h1 | ⟨b, o, c, rfl, k1, k2, k3⟩
    · exact .inl h1
    · refine .inr ⟨b, o, c, rfl, k1, k2, fun j x hj => ?_⟩
      have h3 := k3 j x hj
      unfold World.cell? at h3 ⊢
      rw [show W'.heap[(⟨b, o + j, none⟩ : Addr).block]? = W.heap[b]? from he b o _ c rfl]
      exact h3
  · rw [he b o n c hv]
    exact h2 b o n c hv
theorem VB.later {W W' : World} {v : Value} {xs : List Int} (h : VB W v xs) (hb : Below W.heap.size W W') : VB W' v xs :=
  h.at fun b o n c hv => by
    obtain ⟨cs, mk, h⟩ := h.2 b o n c hv
    exact hb.block b (Array.getElem?_eq_some_iff.1 h).1
/-- The object is of bytes. -/
theorem Nn.not8 {N : Nat} {g : NdG} {s : St} {TL : List Hp.Tm} {W : World} (n : Nn N g s TL W) {b : Nat} {cs : Array Value} {mk : Nat × Nat} (hc : W.heap[b]? = some (.cells cs 5 mk)) : ¬ Ft N g s b := by
  rintro ((rfl | rfl | hT) | hk)
  · rw [show W.heap[b]? = _ from n.cr.nd] at hc
    cases hc
  · obtain ⟨es, cl, hm⟩ := n.cr.mo.obj
    rw [hm] at hc
    cases hc
  · refine n.cr.tb.not (fun e => ?_) hc ⟨fun c e => (by cases e), fun c e => (by cases e), fun c e => (by cases e)⟩ hT
    obtain ⟨D, ⟨es, cl, hm, _⟩, _⟩ := n.cr.tb.map
    rw [← e, hc] at hm
    cases hm
  · obtain ⟨o, ho, ⟨_, es, cl, rfl⟩ | ⟨h, _⟩⟩ := n.rs.kind hk
    · rw [ho] at hc
      cases hc
    · rw [ho] at hc
      cases hc
      exact h ⟨fun c e => (by cases e), fun c e => (by cases e), fun c e => (by cases e), fun c e => (by cases e), fun c e => (by cases e)⟩
theorem Nn.vb {N : Nat} {g : NdG} {s : St} {TL : List Hp.Tm} {W W' : World} (n : Nn N g s TL W) {v : Value} {xs : List Int} (hr : VB W v xs) (hf : Fx (Ft N g s) W W') : VB W' v xs := hr.at fun b o m c hv => by
  obtain ⟨cs, mk, hc⟩ := hr.2 b o m c hv
  exact hf.block b (some_lt hc) (n.not8 hc)
/-- The lock is taken, or given back. -/
theorem Nn.setLk {N : Nat} {g : NdG} {s : St} {TL : List Hp.Tm} {W : World} (n : Nn N g s TL W) (v : Int) : Nn N { g with x := { g.x with lk := v } } { s with lk := v } TL (W.setCell ⟨N, 0, none⟩ (.int .i32 v)) ∧ W.grownBy (W.setCell ⟨N, 0, none⟩ (.int .i32 v)) (some N) := by
  have hg : W.grownBy (W.setCell ⟨N, 0, none⟩ (.int .i32 v)) (some N) := grown_cellOf (grown_self _ (some N)) 0 _
  obtain ⟨e1, e2, e3, e4, e5, e6, e7, e8, e9⟩ := n.eq
  have hrs := n.rs.kept (W' := W.setCell ⟨N, 0, none⟩ (.int .i32 v)) fun k hk => hg.block k (n.rs.lt hk) fun e => n.apart hk (.inl (Option.some.inj e))
  refine ⟨⟨⟨n.cr.nd.setLk v, n.cr.mo.kept hg (by simpa using Ne.symm (nd_mo n.cr.nd n.cr.mo)), n.cr.tb.keptFx (S := fun k => k = N) (Fx.grown hg fun k e => by cases e; rfl) ?_, n.cr.ne⟩, ⟨e1, e2, e3, e4, e5, e6, e7, e8, rfl⟩, ⟨hrs.sn, hrs.sr, hrs.tm, hrs.hpo, hrs.pm, hrs.pc⟩, n.nod, n.siz⟩, hg⟩
  rintro k rfl _
  refine ⟨fun e => ?_, _, n.cr.nd, nd_offT g.x⟩
  obtain ⟨D, ⟨es, cl, hm, _⟩, _⟩ := n.cr.tb.map
  rw [← e, show W.heap[k]? = _ from n.cr.nd] at hm
  cases hm
theorem Ft.lk {N : Nat} {g : NdG} {s : St} {v : Int} {k : Nat} : Ft N { g with x := { g.x with lk := v } } { s with lk := v } k ↔ Ft N g s k := Iff.rfl
theorem Nn.qlen {N : Nat} {g : NdG} {s : St} {TL : List Hp.Tm} {W : World} (n : Nn N g s TL W) (hT : TmOk s TL) : TL.length ≤ 5000 := by
  rw [hT.length_eq, List.length_map]
  exact n.rs.sr.len
/-- The timers' ids differ. -/
theorem pi_ids {h : List Hp.Tm} {f : Int → Option Nat} (p : PI h f) : h.Pairwise fun a b => a.2.1 ≠ b.2.1 := by
  rw [List.pairwise_iff_getElem]
  intro i j hi hj hij e
  have h1 := p.1 i _ (List.getElem?_eq_getElem hi)
  have h2 := p.1 j _ (List.getElem?_eq_getElem hj)
  rw [e, h2] at h1
  have := Option.some.inj h1
  omega
theorem Nn.ids {N : Nat} {g : NdG} {s : St} {TL : List Hp.Tm} {W : World} (n : Nn N g s TL W) : TL.Pairwise fun a b => a.2.1 ≠ b.2.1 := by
  obtain ⟨f, _, p⟩ := n.rs.tm.map
  exact n.rs.pm.pairwise (pi_ids p) fun h => Ne.symm h
def St.locked (s : St) : St := { s with lk := 1 }
def St.freed (s : St) : St := { s with lk := 0 }
/-- The calls of a node as plain functions. -/
def St.rcv (s : St) (now fr : Int) (xs : List Int) : St := (s.locked.receive now fr xs).freed
def St.brk (s : St) (now nxt : Int) : St := (s.locked.broken now nxt).freed
def St.snd (s : St) (now d : Int) (t : ByteArray) : St := (s.locked.sends now d t).freed
def St.tck (s : St) (now : Int) : St := (s.locked.tick now).freed
/-- What a call of a node leaves. -/
def CallP (N : Nat) (g : NdG) (s s' : St) (w : World) (o : Value) (w' : World) : Prop :=
  ∃ g' TL' frm cam drp, o = outV s'.jrn s'.rep frm cam drp ∧ Nn N g' s' TL' w' ∧ TmOk s' TL' ∧ w'.ownsRow w.heap.size 77 2 frm s'.frs.length (FrC s'.frs) ∧ w'.ownsRow w.heap.size 56 2 cam s'.cms.length (FrC s'.cms) ∧ w'.ownsRow w.heap.size 195 1 drp s'.drs.length (DrC s'.drs) ∧ Fx (Ft N g s) w w' ∧ ∀ k, Ft N g' s' k → Ft N g s k ∨ (w.heap.size ≤ k ∧ k < w'.heap.size)
theorem Nn.lkd {N : Nat} {g : NdG} {s : St} {TL : List Hp.Tm} {W : World} (n : Nn N g s TL W) : W.cell? ⟨N, 0, none⟩ = some (.int .i32 s.lk) ∧ W.frozen? ⟨N, 0, none⟩ = false := by
  have h := n.cr.nd.cell.1
  rw [n.eq.lk] at h
  exact ⟨h, n.cr.nd.free 0⟩
theorem freed_finish (s : St) : s.freed.finish = s.finish.freed := by
  unfold St.finish
  have e : s.freed.write = s.write.freed := rfl
  rw [e]
  show (if s.write.cnt > 24 then _ else _) = _
  split <;> rfl
theorem inv_freed {k : Int} {j : Nat} {s : St} (h : s.Mid k j) (hj : j ≤ 9000) (hA : ∀ y ∈ s.A, y.Ok) (hl : s.A.length ≤ 8) : s.finish.freed.Inv (k + 1) := by
  have h' : s.freed.Mid k j := ⟨h.me, h.seq, h.now, h.mem, ⟨h.dom.mb, h.dom.on, h.dom.own⟩, h.cnt, h.nws, h.bd, h.frs, h.drs, h.cms, h.tn, h.tl, h.pcl, h.pcs, h.pcn, h.qid⟩
  rw [← freed_finish]
  exact inv_finish h' hj rfl hA hl
theorem mid_lock {k : Int} {s : St} (h : s.Inv k) : s.locked.me = s.me ∧ ∀ now, s.now ≤ now ∧ now ≤ 4611686018427387904 → (∀ y ∈ s.A, y.Ok) → s.A.length ≤ 8 → (s.locked.begin now).Mid k 1 := by
  refine ⟨rfl, fun now hn hA hl => ?_⟩
  have h1 := mid_begin h hA hl now hn
  exact ⟨h1.me, h1.seq, h1.now, h1.mem, ⟨h1.dom.mb, h1.dom.on, h1.dom.own⟩, h1.cnt, h1.nws, h1.bd, h1.frs, h1.drs, h1.cms, h1.tn, h1.tl, h1.pcl, h1.pcs, h1.pcn, h1.qid⟩
theorem u32_num {r : List Int} (hb : ∀ x ∈ r, 0 ≤ x ∧ x ≤ 255) (k : Nat) : U32 (num r k) := by
  have := num_b hb k
  unfold U32
  omega
theorem pkOf_dseq {x0 x1 x2 x4 : Int} {r : List Int} (hb : ∀ x ∈ r, 0 ≤ x ∧ x ≤ 255) : U32 (pkOf x0 x1 x2 x4 r).dseq := by
  have h := u32_num hb
  unfold pkOf
  split
  · exact h 2
  split
  · exact h 1
  split
  · simp [U32]
  split
  · simp [U32]
  · simp [U32]
theorem eff_hear (s : St) (fr : Int) (xs : List Int) (hb : ∀ x ∈ xs, 0 ≤ x ∧ x ≤ 255) (h : ∀ q ∈ s.Q, q.txt.length ≤ 4) : Eff 5 s (s.hear fr xs) := by
  unfold St.hear
  split
  · exact (eff_drop _ _).mono (by omega)
  · exact eff_hearPkt _ _ _ _ (pkOf_dseq fun x hx => hb x (List.mem_of_mem_drop hx)) h
end Go.Proofs.YtakaadcpaeiccabGreat

namespace Go.Proofs.YtakaadcpaeiccabGreat
open Go.RowKit Go.Maps

/-! The timer whose time comes first. -/
set_option maxHeartbeats 4000000 in
theorem N_next {N B : Nat} {g : NdG} {s : St} {TL : List Hp.Tm} {w : World} (n : Nd N B g s TL w) (now : Int) (h0 : 0 ≤ now ∧ now ≤ 4611686018427387904) (hl : TL.length ≤ 1000000) :
    Calls Tryz.prog 114 #[.pointer (some ⟨g.x.Tm, 0, none⟩), .int .u64 now] w fun e w' => ∃ h' v' TL' d b, e = .returned (.tuple #[.int .i64 d, .bool b]) ∧ Nd N B { g with hp := h', tv := v' } s TL' w' ∧ Up B (Ft N g s) (Ft N { g with hp := h', tv := v' } s) w w' ∧ ((b = true ∧ ∃ x, x.2.2 = d ∧ x.1 ≤ now ∧ (∀ y ∈ TL, Hp.Le x y) ∧ (x :: TL').Perm TL) ∨ (b = false ∧ (∀ y ∈ TL, now < y.1) ∧ TL' = TL)) := by
  have hr := n.nn.rs
  refine (Next_any 0 g.x.Tm g.Mt s.tl g.hp g.tv w hr.tm (by rw [hr.pm.length_eq]; exact hl) hr.hpo now h0.1 (by omega)).mono ?_
  rintro e w' ⟨h', v', h1, h2, h3, h4, h5⟩
  have hnd := n.nn.nod
  simp only [List.nodup_cons, List.mem_cons, List.not_mem_nil, or_false, not_or] at hnd
  obtain ⟨_, _, ⟨d1, d2⟩, d3, _⟩ := hnd
  have hin : ∀ k, k = g.x.Tm ∨ k = g.Mt ∨ g.tv.ownBlock = some k → RsIn g.x g.h g.u g.Mt g.tv s k := fun k hk => .inr (.inr (hk.elim .inl fun h => .inr (h.elim .inl fun h => .inr (.inl h))))
  have hf : Fx (fun k => k = g.x.Tm ∨ k = g.Mt ∨ g.tv.ownBlock = some k) w w' := ⟨h2.os, h2.tape, h2.output, h2.size, fun k hk hn => h2.block k hk (fun e => hn (.inl e)) (fun e => hn (.inr (.inl e))) (fun e => hn (.inr (.inr e.symm)))⟩
  have hne : ∀ {k : Nat} {o : Obj}, w.heap[k]? = some o → k ≠ g.Mt → (∀ c, o ≠ .cells c 165 (0, 0)) → (∀ c, o ≠ .cells c 254 (0, 0)) → w'.heap[k]? = w.heap[k]? := by
    intro k o ho hk c1 c2
    refine hf.block k (some_lt ho) ?_
    rintro (rfl | h | h)
    · rw [show w.heap[g.x.Tm]? = _ from hr.tm.blk] at ho
      exact c1 _ (Option.some.inj ho).symm
    · exact hk h
    · obtain ⟨c, hc⟩ := row_obj hr.tm.row h
      rw [hc] at ho
      exact c2 _ (Option.some.inj ho).symm
  have hN : w'.heap[N]? = w.heap[N]? := hne (n.nn.cr.nd) (fun e => by
    obtain ⟨f, p1, _⟩ := hr.tm.map
    obtain ⟨es, cl, hm⟩ := p1.obj
    rw [← e, show w.heap[N]? = _ from n.nn.cr.nd] at hm
    cases hm) (fun c e => by cases e) (fun c e => by cases e)
  have hS : SrM g.x.Msr g.h g.u s.Q w' := hr.sr.kept fun k hk => by
    obtain ⟨o, ho, ⟨rfl, _, _, rfl⟩ | ⟨c, rfl⟩ | ⟨c, rfl⟩⟩ := hr.sr.kind hk
    · exact hne ho d3 (fun c e => by cases e) (fun c e => by cases e)
    · refine hne ho ?_ (fun c e => by cases e) (fun c e => by cases e)
      rintro rfl
      obtain ⟨f, p1, _⟩ := hr.tm.map
      obtain ⟨es, cl, hm⟩ := p1.obj
      rw [hm] at ho
      cases ho
    · refine hne ho ?_ (fun c e => by cases e) (fun c e => by cases e)
      rintro rfl
      obtain ⟨f, p1, _⟩ := hr.tm.map
      obtain ⟨es, cl, hm⟩ := p1.obj
      rw [hm] at ho
      cases ho
  have hM : SnM g.x.Ms s.tn s.mem w' := hr.sn.block (by
    obtain ⟨es, cl, hm⟩ := hr.sn.obj
    exact hne hm d2 (fun c e => by cases e) (fun c e => by cases e))
  have hP := row_at (W' := w') hr.pc fun k hk => (by
    obtain ⟨c, hc⟩ := row_obj hr.pc hk
    refine hne hc ?_ (fun c e => by cases e) (fun c e => by cases e)
    rintro rfl
    obtain ⟨f, p1, _⟩ := hr.tm.map
    obtain ⟨es, cl, hm⟩ := p1.obj
    rw [hm] at hc
    cases hc)
  obtain ⟨p, u⟩ := n.rest (s' := s) (TL' := h') (n.nn.cr.nd.block hN) rfl rfl n.nn.eq (h' := g.h) (u' := g.u) (Mt' := g.Mt) (hp' := h') (tv' := v')
    ⟨hM, hS, h1, h4, .refl _, hP⟩ (hf.mono fun k hk => .inr (hin k hk)) (fun k hk => .inl (by unfold RsIn at hk ⊢; rw [h3] at hk; exact hk)) ⟨rfl, rfl, rfl⟩ ⟨rfl, rfl, rfl, rfl, rfl, rfl, rfl, rfl, rfl⟩
  rcases h5 with ⟨x0, x1, rfl, hpm⟩ | ⟨hno, rfl, rfl⟩
  · refine ⟨h', v', h', _, true, rfl, p, u, .inl ⟨rfl, _, rfl, x1, fun y hy => ?_, hpm.trans hr.pm⟩⟩
    obtain ⟨j, hj, e⟩ := List.getElem_of_mem (hr.pm.mem_iff.2 hy)
    have := hr.hpo.least j hj
    rw [Hp.at_some (List.getElem?_eq_getElem hj), e] at this
    exact this
  · obtain ⟨p2, u2⟩ := n.rest (s' := s) (TL' := TL) (n.nn.cr.nd.block hN) rfl rfl n.nn.eq (h' := g.h) (u' := g.u) (Mt' := g.Mt) (hp' := g.hp) (tv' := v')
      ⟨hM, hS, h1, h4, hr.pm, hP⟩ (hf.mono fun k hk => .inr (hin k hk)) (fun k hk => .inl (by unfold RsIn at hk ⊢; rw [h3] at hk; exact hk)) ⟨rfl, rfl, rfl⟩ ⟨rfl, rfl, rfl, rfl, rfl, rfl, rfl, rfl, rfl⟩
    refine ⟨g.hp, v', TL, 0, false, rfl, p2, u2, .inr ⟨rfl, fun y hy => ?_, rfl⟩⟩
    have hy' := hr.pm.mem_iff.2 hy
    obtain ⟨j, hj, e⟩ := List.getElem_of_mem hy'
    have hl := hr.hpo.least j hj
    rw [Hp.at_some (List.getElem?_eq_getElem hj), e, Hp.Le.iff] at hl
    rcases hno with h | h
    · omega
    · omega
/-- A row of searches is none of a node's blocks. -/
theorem Nd.notL {N B : Nat} {g : NdG} {s : St} {TL : List Hp.Tm} {W : World} (n : Nd N B g s TL W) {b : Nat} {cs : Array Value} (hc : W.heap[b]? = some (.cells cs 172 (0, 0))) : ¬ Ft N g s b ∧ ¬ AcIn B g.a b := by
  refine ⟨fun h => ?_, fun h => n.ac.kinds h hc ⟨fun c e => (by cases e), fun c e => (by cases e), fun c e => (by cases e), fun c e => (by cases e), fun c e => (by cases e)⟩⟩
  rcases h with (rfl | rfl | hT) | hk
  · rw [show W.heap[b]? = _ from n.nn.cr.nd] at hc
    cases hc
  · obtain ⟨es, cl, hm⟩ := n.nn.cr.mo.obj
    rw [hm] at hc
    cases hc
  · refine n.nn.cr.tb.not (fun e => ?_) hc ⟨fun c e => (by cases e), fun c e => (by cases e), fun c e => (by cases e)⟩ hT
    obtain ⟨D, ⟨es, cl, hm, _⟩, _⟩ := n.nn.cr.tb.map
    rw [← e, hc] at hm
    cases hm
  · obtain ⟨o, ho, ⟨_, es, cl, rfl⟩ | ⟨h, _⟩⟩ := n.nn.rs.kind hk
    · rw [ho] at hc
      cases hc
    · rw [ho] at hc
      cases hc
      exact h ⟨fun c e => (by cases e), fun c e => (by cases e), fun c e => (by cases e), fun c e => (by cases e), fun c e => (by cases e)⟩
end Go.Proofs.YtakaadcpaeiccabGreat

namespace Go.Proofs.YtakaadcpaeiccabGreat.U8
open Go.RowKit Go.Sort

/-- Numbers as cells. -/
def UC (d : Array Int) : List Value := d.toList.map (Value.int .u64)
theorem UC_get {d : Array Int} {j : Nat} (hj : j < d.size) : (UC d)[j]? = some (.int .u64 d[j]!) := by
  simp [UC, hj]
theorem UC_set (d : Array Int) (j : Nat) (x : Int) : (UC d).set j (.int .u64 x) = UC (d.setIfInBounds j x) := by
  simp [UC, List.map_set]
/-- A row of numbers. -/
structure SR (base g cap n : Nat) (d : Array Int) (W : World) : Prop where
  size : d.size = n
  row : W.ownsRow base 35 1 (.slice (some ⟨g, 0, none⟩) n cap) n (UC d)
theorem SR.cell {base g cap n : Nat} {d : Array Int} {W : World} (h : SR base g cap n d W) {j : Nat} (hj : j < n) : W.cell? ⟨g, j, none⟩ = some (.int .u64 d[j]!) :=
  (h.row.cellAt j (by omega)).trans (UC_get (by rw [h.size]; exact hj))
theorem SR.free {base g cap n : Nat} {d : Array Int} {W : World} (h : SR base g cap n d W) (j : Nat) : W.frozen? ⟨g, j, none⟩ = false := h.row.frozenAt j
theorem SR.later {base g cap n : Nat} {d : Array Int} {W W' : World} (h : SR base g cap n d W) (hb : Below W.heap.size W W') : SR base g cap n d W' :=
  ⟨h.size, h.row.kept (row := none) ⟨hb.os, hb.tape, hb.output, hb.size, fun k hk _ => hb.block k hk⟩ (.inr (by simp [Value.ownBlock]))⟩
theorem SR.drewN {base g cap n : Nat} {d : Array Int} {W : World} (h : SR base g cap n d W) (q : Nat) : SR base g cap n d (W.drewN q) :=
  ⟨h.size, h.row.kept (row := none) ⟨rfl, rfl, rfl, Nat.le_refl _, fun _ _ _ => rfl⟩ (.inr (by simp [Value.ownBlock]))⟩
theorem SR.swap {base g cap n : Nat} {d : Array Int} {W : World} (h : SR base g cap n d W) (i j : Nat) :
    SR base g cap n (swp d i j) ((W.setCell ⟨g, i, none⟩ (.int .u64 d[j]!)).setCell ⟨g, j, none⟩ (.int .u64 d[i]!)) := by
  have h1 := (h.row.stored i (.int .u64 d[j]!)).1
  have h2 := (h1.stored j (.int .u64 d[i]!)).1
  rw [UC_set, UC_set] at h2
  exact ⟨by rw [swp_size]; exact h.size, h2⟩
set_option maxHeartbeats 1000000 in
theorem isNaN_any (x : Int) (w : World) : Calls Tryz.prog 221 #[.int .u64 x] w fun e w' => e = .returned (.bool false) ∧ w' = w := by
  go_enter Tryz.func221, Tryz.ntmps221
  go_wp2
  go_ret
  exact ⟨by simp, rfl⟩
set_option maxHeartbeats 1000000 in
theorem Less_any (x y : Int) (w : World) : Calls Tryz.prog 211 #[.int .u64 x, .int .u64 y] w fun e w' => e = .returned (.bool (ltInt x y)) ∧ w' = w := by
  go_enter Tryz.func211, Tryz.ntmps211
  go_wp2_with (go_at_call 221; refine (isNaN_any _ _).mono ?_; rintro e w' ⟨rfl, rfl⟩)
  go_ret
  exact ⟨rfl, rfl⟩

set_option maxRecDepth 100000 in
set_option maxHeartbeats 4000000 in
theorem insertion_any (base g cap n a b : Nat) (d : Array Int) (w : World) (h : SR base g cap n d w) (hab : a ≤ b) (hb : b ≤ n) (hn : n ≤ 1000000) :
    Calls Tryz.prog 205 #[.slice (some ⟨g, 0, none⟩) n cap, .int .i64 a, .int .i64 b] w fun e w' => e = .returned (.tuple #[]) ∧ SR base g cap n (insertionSort ltInt d a b) w' ∧ w.grownBy w' (some g) := by
  go_enter Tryz.func205, Tryz.ntmps205
  go_wp2_with fail
  go_loopw [6] (fun vi wr => ∃ (i : Nat) (dk : Array Int), vi = .int .i64 i ∧ a < i ∧ i ≤ b + 1 ∧ SR base g cap n dk wr ∧ w.grownBy wr (some g) ∧ insOuter ltInt a b i dk = insertionSort ltInt d a b) (fun vi _ => b + 1 - (intOf vi).toNat)
  case atStart => exact ⟨a + 1, d, by go_num, by omega, by omega, h, grn_rfl _ _, rfl⟩
  case round =>
    clear h
    obtain ⟨i, dk, rfl, hai, hib, h, hg, hO⟩ := hrel
    have HO := (show Hid _ from hO)
    clear hO
    by_cases hlt : i < b
    · have hix : (i : Int) < (b : Int) := by omega
      go_wp2_with fail
      go_loopw [7] (fun vj wr2 => ∃ (j : Nat) (dj : Array Int), vj = .int .i64 j ∧ a ≤ j ∧ j ≤ i ∧ SR base g cap n dj wr2 ∧ w.grownBy wr2 (some g) ∧ insInner ltInt a j dj = insInner ltInt a i dk) (fun vj _ => (intOf vj).toNat)
      case atStart => exact ⟨i, dk, rfl, by omega, Nat.le_refl _, h, hg, rfl⟩
      case round =>
        clear h hg
        obtain ⟨j, dj, rfl, haj, hji, h, hg, hI⟩ := hrel
        have hjn : (j : Int) < (n : Int) := by omega
        have hj1n : (j : Int) - 1 < (n : Int) := by omega
        by_cases hja : a < j
        · have hjp : (1 : Int) ≤ (j : Int) := by omega
          have c0 := h.cell (j := j) (by omega)
          have c1 := h.cell (j := j - 1) (by omega)
          have f0 := h.free j
          have f1 := h.free (j - 1)
          have hq : (j : Int) - 1 = ((j - 1 : Nat) : Int) := by omega
          have hs := h.swap j (j - 1)
          have hgs := fun u v => grown_swap wr g j (j - 1) u v
          have hgo := uInner_go a j dj hja
          have hst := uInner_stop a j dj
          generalize hX : dj[j]! = X at c0 hs hgo hst
          generalize hY : dj[j - 1]! = Y at c1 hs hgo hst
          have hJn : ((j - 1 : Nat) : Int) < (n : Int) := by omega
          have hj0 : (0 : Int) ≤ (j : Int) - 1 := by omega
          generalize hJ : j - 1 = J at c1 f1 hq hs hgs hgo hst hJn
          have HJ := (show Hid _ from hJ)
          have HI := (show Hid _ from hI)
          have HS := (show Hid _ from hst)
          clear hJ hI hst
          have hdj : decide (a < j) = true := decide_eq_true hja
          go_wp2_with fail
          go_quiet (first | (go_at_call 211; refine Calls.quiet_of_same (Less_any _ _ _)))
          cases hl : ltInt X Y
          · go_wp2
            go_roundw
            case rel => exact ⟨i + 1, dj, by go_num, by omega, by omega, h.drewN _, hg.trans (grown_dN _ _ _), by rw [← HO.out, uOuter_go _ _ _ _ hlt, ← HI.out, HS.out (.inr hl)]⟩
            case measure => simp [intOf]; omega
          · have hs' := (h.drewN (nq + 1)).swap j J
            have hg' := hg.trans ((grown_dN wr (nq + 1) (some g)).trans (grown_swap _ g j J (.int .u64 dj[J]!) (.int .u64 dj[j]!)))
            rw [hX, ← HJ.out, hY, HJ.out] at hs' hg'
            have hJj : J + 1 = j := by have := HJ.out; omega
            clear hX hY
            go_wp2_with fail
            go_region
            all_goals go_wp2
            go_roundw
            case rel => exact ⟨J, swp dj j J, rfl, by omega, by omega, hs', hg', by rw [← HI.out, hgo hl]⟩
            case measure => simp [intOf]; omega
        · have hdj : decide (a < j) = false := decide_eq_false hja
          have hst := uInner_stop a j dj (.inl (by omega))
          go_wp2_with fail
          go_quiet (fail)
          go_wp2
          go_roundw
          case rel => exact ⟨i + 1, dj, by go_num, by omega, by omega, h.drewN _, hg.trans (grown_dN _ _ _), by rw [← HO.out, uOuter_go _ _ _ _ hlt, ← hI, hst]⟩
          case measure => simp [intOf]; omega
    · have hend : insOuter ltInt a b i dk = dk := uOuter_stop a b i dk hlt
      rw [HO.out] at hend
      rw [← hend] at h
      go_wp2
      go_returns
      exact ⟨rfl, h, hg⟩

/-- What the sort leaves. -/
def PQ (base g cap n a b : Nat) (d : Array Int) (w : World) (e : Ending) (w' : World) : Prop :=
  e = .returned (.tuple #[]) ∧ ∃ d', SR base g cap n d' w' ∧ PermIn a b d d' ∧ SortedIn ltInt a b d' ∧ w.grownBy w' (some g)

set_option maxRecDepth 100000 in
set_option maxHeartbeats 4000000 in
theorem pdq_any (base g cap n r : Nat) (d : Array Int) (w : World) (h : SR base g cap n d w) (hn : n ≤ 12) :
    Calls Tryz.prog 195 #[.slice (some ⟨g, 0, none⟩) n cap, .int .i64 0, .int .i64 n, .int .i64 r] w (PQ base g cap n 0 n d w) := by
  have hd12 : decide ((n : Int) ≤ 12) = true := decide_eq_true (by omega)
  have hd12' : decide (n ≤ 12) = true := decide_eq_true hn
  obtain ⟨i1, i2⟩ := insertionSort_holds swo_ltInt d 0 n (Nat.zero_le _) (by rw [h.size]; exact Nat.le_refl _)
  go_enter Tryz.func195, Tryz.ntmps195
  go_wp2_with fail
  go_loopw [1, 2] (fun va vb wr => va = .int .i64 0 ∧ vb = .int .i64 n ∧ SR base g cap n d wr ∧ w.grownBy wr (some g)) (fun _ _ _ => 0)
  case atStart => exact ⟨rfl, rfl, h, grn_rfl _ _⟩
  case round =>
    obtain ⟨rfl, rfl, h1, hg⟩ := hrel
    have hcall := (show Hid _ from insertion_any base g cap n 0 n d _ h1 (Nat.zero_le _) (Nat.le_refl _) (by omega))
    clear h h1
    go_wp2_with fail
    refine Calls.mono hcall.out ?_
    rintro e W2 ⟨rfl, h2, hg2⟩
    clear hcall
    go_wp2
    go_returns
    exact ⟨rfl, _, h2, i1, i2, hg.trans hg2⟩

set_option maxRecDepth 100000 in
set_option maxHeartbeats 4000000 in
theorem sort_any (base g cap n : Nat) (d : Array Int) (w : World) (h : SR base g cap n d w) (hn : n ≤ 12) :
    Calls Tryz.prog 177 #[.slice (some ⟨g, 0, none⟩) n cap] w (PQ base g cap n 0 n d w) := by
  go_enter Tryz.func177, Tryz.ntmps177
  go_wp2_with fail
  refine (len_any n (by omega) _).mono ?_
  rintro e w1 ⟨r, rfl, hr, _, rfl⟩
  have HP := (show Hid _ from pdq_any base g cap n r d _ h hn)
  go_wp2_with fail
  refine Calls.mono HP.out ?_
  rintro e w2 ⟨rfl, d', h', hp, hs, hg⟩
  clear HP
  go_wp2
  go_returns
  exact ⟨rfl, d', h', hp, hs, hg⟩
end Go.Proofs.YtakaadcpaeiccabGreat.U8

namespace Go.Proofs.YtakaadcpaeiccabGreat
open Go.RowKit Go.Maps Go.Sort

/-! When one's own requests went out. -/
set_option maxRecDepth 100000 in
set_option maxHeartbeats 2000000 in
theorem pfull_any (N : Nat) (x : NdV) (pc : List Int) (now : Int) (w : World) (hN : NdB N x w) (hp : w.ownsRow 0 35 1 x.pc pc.length (pc.map (Value.int .u64))) (hnow : 0 ≤ now ∧ now ≤ 4611686018427387904) :
    Calls Tryz.prog 153 #[.pointer (some ⟨N, 15, none⟩), .int .u64 now] w fun e w' => e = .returned (.bool (St.full pc now)) ∧ w' = w := by
  have n15 := hN.more.2.2.2.2
  obtain ⟨ao, c, hv, hH⟩ := row_form hp
  rw [hv] at n15
  have hf : Hid (St.full pc now = (decide (pc.length = 5) && (decide (now < 1000) || decide (pc.getD 0 0 > now - 1000)))) := rfl
  by_cases h5 : pc.length = 5
  · obtain ⟨t, hpc⟩ : ∃ t, (pc.map (Value.int .u64))[0]? = some (.int .u64 t) ∧ pc.getD 0 0 = t := by
      match pc, h5 with
      | t :: _, _ => exact ⟨t, rfl, rfl⟩
    obtain ⟨b, o, rfl, _⟩ := hH 0 _ hpc.1
    have c0 := hH.one rfl hpc.1
    have hl : Hid ((decide (pc.length = 5)) = true) := by simpa [Hid] using h5
    rw [h5] at n15
    rw [Nat.add_zero] at c0
    generalize hr : St.full pc now = r
    rw [hr, hl.out, hpc.2] at hf
    clear hr hl hp hv hH h5 hpc
    by_cases h1 : now < 1000
    · have d1 : decide (now < 1000) = true := decide_eq_true h1
      rw [d1] at hf
      go_enter Tryz.func153, Tryz.ntmps153
      go_wp2
      go_returns
      exact ⟨by rw [hf.out]; rfl, rfl⟩
    · have d1 : decide (now < 1000) = false := decide_eq_false h1
      rw [d1] at hf
      have hw : IntKind.u64.wrap (now - 1000) = now - 1000 := by
        simp only [IntKind.wrap, IntKind.signed, IntKind.bits]
        simp
        omega
      go_enter Tryz.func153, Tryz.ntmps153
      go_wp2
      go_returns
      exact ⟨by rw [hf.out]; simp, rfl⟩
  · have d5 : decide (pc.length = 5) = false := decide_eq_false h5
    rw [d5] at hf
    have h5' : ((pc.length : Int) == 5) = false := by simp; omega
    generalize hr : St.full pc now = r
    rw [hr] at hf
    clear hr hp hv hH
    go_enter Tryz.func153, Tryz.ntmps153
    go_wp2
    go_returns
    exact ⟨by rw [hf.out]; rfl, rfl⟩
end Go.Proofs.YtakaadcpaeiccabGreat

namespace Go.Proofs.YtakaadcpaeiccabGreat
open Go.RowKit Go.Maps Go.Sort

theorem info_u64 : (Tryz.prog.info? 35).map (fun i => (i.zero, i.size, i.bytes)) = some (some (.int .u64 0), 1, 8) := by kernel_rfl
theorem sorted_unique {a b : List Int} (ha : a.Pairwise (· ≤ ·)) (hb : b.Pairwise (· ≤ ·)) (h : a.Perm b) : a = b :=
  List.Perm.eq_of_pairwise (le := fun x y => x ≤ y) (fun x y _ _ h1 h2 => by omega) ha hb h
theorem pcAdd_sorted {pc : List Int} {now : Int} (hs : pc.Pairwise (· ≤ ·)) (hm : ∀ t ∈ pc, t ≤ now) : (St.pcAdd pc now).Pairwise (· ≤ ·) ∧ (∀ t ∈ St.pcAdd pc now, t ≤ now) := by
  unfold St.pcAdd
  have h1 : ∀ l : List Int, l.Pairwise (· ≤ ·) → (∀ t ∈ l, t ≤ now) → (l ++ [now]).Pairwise (· ≤ ·) ∧ ∀ t ∈ l ++ [now], t ≤ now := by
    intro l h1 h2
    refine ⟨List.pairwise_append.2 ⟨h1, List.pairwise_singleton _ _, fun a ha b hb => by rw [List.mem_singleton] at hb; subst hb; exact h2 a ha⟩, fun t ht => ?_⟩
    rcases List.mem_append.1 ht with h | h
    · exact h2 t h
    · rw [List.mem_singleton] at h; omega
  split
  · exact h1 _ hs.tail fun t ht => hm t (List.mem_of_mem_tail ht)
  · exact h1 _ hs hm
theorem pcAdd_len {pc : List Int} (h : pc.length ≤ 5) (now : Int) : (St.pcAdd pc now).length ≤ 5 := by
  unfold St.pcAdd
  split <;> simp <;> omega
theorem pcAdd_full {pc : List Int} {now : Int} (h5 : pc.length = 5) : (St.pcAdd pc now).length = 5 ∧ (pc.toArray.setIfInBounds 0 now).toList.Perm (St.pcAdd pc now) := by
  match pc, h5 with
  | a :: l, h5 =>
    have e : St.pcAdd (a :: l) now = l ++ [now] := by
      unfold St.pcAdd
      rw [if_pos h5]
      rfl
    rw [e]
    refine ⟨by simpa using h5, ?_⟩
    have : ((a :: l).toArray.setIfInBounds 0 now).toList = now :: l := by simp
    rw [this]
    exact (List.perm_append_singleton now l).symm
theorem cells_u64 (W : World) (r : Int) : ∀ (j : Nat) (u : Value), ([.int .u64 r] : List Value)[j]? = some u → (W.alloc (.cells #[.int .u64 r] 35)).cell? ((⟨W.heap.size, 0, none⟩ : Addr).add j) = some u := by
  intro j u hj
  have h := heap_alloc_new W (.cells #[.int .u64 r] 35)
  rw [Addr.add_lit, Nat.zero_add]
  match j, hj with
  | 0, hj => cases hj; exact cell_of_row _ _ 0 _ _ _ h

set_option maxRecDepth 100000 in
set_option maxHeartbeats 4000000 in
theorem padd_any (N : Nat) (x : NdV) (pc : List Int) (now : Int) (w : World) (hN : NdB N x w) (hp : w.ownsRow 0 35 1 x.pc pc.length (pc.map (Value.int .u64))) (hl : pc.length ≤ 5) (hs : pc.Pairwise (· ≤ ·)) (hm : ∀ t ∈ pc, t ≤ now) :
    Calls Tryz.prog 155 #[.pointer (some ⟨N, 15, none⟩), .int .u64 now] w fun e w' => ∃ v', e = .returned (.tuple #[]) ∧ NdB N { x with pc := v' } w' ∧ w'.ownsRow 0 35 1 v' (St.pcAdd pc now).length ((St.pcAdd pc now).map (Value.int .u64)) ∧ Fx (fun k => k = N ∨ x.pc.ownBlock = some k) w w' ∧ (v'.ownBlock = x.pc.ownBlock ∨ ∃ b, v'.ownBlock = some b ∧ w.heap.size ≤ b) := by
  obtain ⟨i0, hi, hz0, hz1, hz2⟩ := info_parts info_u64
  have n15 := hN.more.2.2.2.2
  have f15 := hN.free 15
  obtain ⟨hsrt, _⟩ := pcAdd_sorted hs hm
  replace hsrt := hide hsrt
  by_cases h5 : pc.length = 5
  · obtain ⟨g, cap, hv, _⟩ := row_shape' hp (by omega)
    obtain ⟨q5, qp⟩ := pcAdd_full (now := now) h5
    have hSR : U8.SR 0 g cap 5 pc.toArray w := ⟨by simp [h5], by rw [hv, h5] at hp; simpa [U8.UC] using hp⟩
    have hgN : g ≠ N := by
      have := row_not hp hN (fun c e => by cases e)
      rw [hv] at this
      simpa [Value.ownBlock] using this
    have hst := (hSR.row.stored 0 (.int .u64 now)).1
    rw [U8.UC_set] at hst
    have hS1 : U8.SR 0 g cap 5 (pc.toArray.setIfInBounds 0 now) (w.setCell ⟨g, 0, none⟩ (.int .u64 now)) := ⟨by simp [h5], hst⟩
    have hg1 : w.grownBy (w.setCell ⟨g, 0, none⟩ (.int .u64 now)) (some g) := grn_st (grn_rfl w (some g)) 0 _
    have hN1 := hN.kept hg1 (fun e => hgN (Option.some.inj e))
    have HS := hide (U8.sort_any 0 g cap 5 _ _ hS1 (by omega))
    have c0 := hSR.cell (j := 0) (by omega)
    have g0 := hSR.free 0
    rw [hv, h5] at n15
    have n15' := hN1.more.2.2.2.2
    rw [hv, h5] at n15'
    have hl5 : ((pc.length : Int) == 5) = true := by simp; omega
    have hpv : Hid (x.pc = .slice (some ⟨g, 0, none⟩) 5 cap) := by show _ = _; rw [hv, h5]
    have hfin : Hid (∀ d' w', U8.SR 0 g cap 5 d' w' → PermIn 0 5 (pc.toArray.setIfInBounds 0 now) d' → SortedIn ltInt 0 5 d' → (w.setCell ⟨g, 0, none⟩ (.int .u64 now)).grownBy w' (some g) → NdB N { x with pc := .slice (some ⟨g, 0, none⟩) 5 cap } w' ∧ w'.ownsRow 0 35 1 (.slice (some ⟨g, 0, none⟩) 5 cap) (St.pcAdd pc now).length ((St.pcAdd pc now).map (Value.int .u64)) ∧ Fx (fun k => k = N ∨ x.pc.ownBlock = some k) w w') := by
      intro d' w' h1 h2 h3 h4
      have e1 : d'.toList = St.pcAdd pc now := sorted_unique (sorted_all h1.size h3) hsrt.out ((perm_all (by simp [h5]) h2).trans qp)
      refine ⟨?_, ?_, Fx.grown (hg1.trans h4) fun k e => .inr (by rw [hpv.out, ← e]; rfl)⟩
      · have h7 := hN1.kept h4 (fun e => hgN (Option.some.inj e))
        have e2 : ({ x with pc := .slice (some ⟨g, 0, none⟩) 5 cap } : NdV) = x := by rw [← hpv.out]
        rw [e2]
        exact h7
      · rw [q5]
        have := h1.row
        unfold U8.UC at this
        rw [e1] at this
        exact this
    clear hS1 hst hSR hN1 hg1 qp q5 hs hm hsrt hp hN h5 hv hl
    go_enter Tryz.func155, Tryz.ntmps155
    go_wp2_with fail
    refine Calls.mono HS.out ?_
    rintro e w2 ⟨rfl, d', k1, k2, k3, k4⟩
    have hf := hide (hfin.out d' w2 k1 k2 k3 k4)
    clear HS hfin k1 k2 k3 k4
    go_wp2
    go_returns
    exact ⟨_, rfl, hf.out.1, hf.out.2.1, hf.out.2.2, .inl (by rw [hpv.out])⟩
  · have e1 : St.pcAdd pc now = pc ++ [now] := by unfold St.pcAdd; rw [if_neg h5]
    obtain ⟨ao, c, hv, _⟩ := row_form hp
    have hb1 : Below w.heap.size w (w.alloc (.cells #[.int .u64 now] 35)) := (Below.refl _ _).alloc (Nat.le_refl _) _
    have hN1 := hN.later hb1
    have hp1 := step_append_kept hp hb1
    have hcr := cells_u64 w now
    have hl5 : ((pc.length : Int) == 5) = false := by simp; omega
    rw [hv] at n15 hp hp1
    have hpv := hide hv
    clear hv
    go_enter Tryz.func155, Tryz.ntmps155
    go_wp2_with (at_builtin; refine wpList_append_own_at _ rfl _ _ 66 rfl 0 35 i0 (.int .u64 0) 1 8 Tryz.underlying66 hi hz0 hz1 hz2 rfl (by decide) (.slice ao pc.length c) pc.length (pc.map (Value.int .u64)) rfl (hp.alloc _) ⟨w.heap.size, 0, none⟩ 1 1 [.int .u64 now] rfl rfl hcr (by simp [Value.oneCell']) (by unfold maxLen; omega) (by omega) ?c3 ?_)
    case c3 => simp
    intro v4 W4 ho4 hg4 _ hv4
    have ho4' : W4.ownsRow 0 35 1 v4 (St.pcAdd pc now).length ((St.pcAdd pc now).map (Value.int .u64)) := by
      rw [e1, List.map_append, List.length_append]
      exact ho4
    have hlen4 : (St.pcAdd pc now).length ≤ 5 ∧ 0 < (St.pcAdd pc now).length := by rw [e1, List.length_append]; simp; omega
    have hN4 := hN1.kept hg4 (row_not hp1 hN1 (fun c e => by cases e))
    obtain ⟨g, cap, hv5, _⟩ := row_shape' ho4' hlen4.2
    subst hv5
    have n15' := hN4.more.2.2.2.2
    rw [hpv.out] at n15'
    have f15' := hN4.free 15
    have hN5 := hN4.setPc (.slice (some ⟨g, 0, none⟩) (St.pcAdd pc now).length cap)
    have hgN : W4.grownBy (W4.setCell ⟨N, 15, none⟩ (.slice (some ⟨g, 0, none⟩) (St.pcAdd pc now).length cap)) (some N) := grown_cellOf (grown_self _ (some N)) 15 _
    have ho5 := ho4'.kept hgN (.inr (row_not ho4' hN4 (fun c e => by cases e)))
    have hNg : N ≠ g := by
      have := row_not ho4' hN4 (fun c e => by cases e)
      simp only [Value.ownBlock] at this
      intro e
      exact this (by rw [e])
    have hfx5 : Fx (fun k => k = N ∨ x.pc.ownBlock = some k) w (W4.setCell ⟨N, 15, none⟩ (.slice (some ⟨g, 0, none⟩) (St.pcAdd pc now).length cap)) := grown_Fx (grown_Fx (Fx.below hb1) hg4 (fun i _ e => .inr (by rw [hpv.out]; exact e))) hgN (fun i _ e => .inl (Option.some.inj e).symm)
    have hblk : Hid (some g = x.pc.ownBlock ∨ ∃ b, some g = some b ∧ w.heap.size ≤ b) := by
      rcases hv4 with h | h
      · exact .inl (by rw [hpv.out]; exact h)
      · refine .inr ⟨g, rfl, ?_⟩
        have : g = w.heap.size + 1 := by simpa [Value.ownBlock] using h
        omega
    have hSR : U8.SR 0 g cap (St.pcAdd pc now).length (St.pcAdd pc now).toArray (W4.setCell ⟨N, 15, none⟩ (.slice (some ⟨g, 0, none⟩) (St.pcAdd pc now).length cap)) := ⟨by simp, by simpa [U8.UC] using ho5⟩
    have HS := hide (U8.sort_any 0 g cap (St.pcAdd pc now).length _ _ hSR (by omega))
    have hfin : Hid (∀ d' w', U8.SR 0 g cap (St.pcAdd pc now).length d' w' → PermIn 0 (St.pcAdd pc now).length (St.pcAdd pc now).toArray d' → SortedIn ltInt 0 (St.pcAdd pc now).length d' → (W4.setCell ⟨N, 15, none⟩ (.slice (some ⟨g, 0, none⟩) (St.pcAdd pc now).length cap)).grownBy w' (some g) → NdB N { x with pc := .slice (some ⟨g, 0, none⟩) (St.pcAdd pc now).length cap } w' ∧ w'.ownsRow 0 35 1 (.slice (some ⟨g, 0, none⟩) (St.pcAdd pc now).length cap) (St.pcAdd pc now).length ((St.pcAdd pc now).map (Value.int .u64)) ∧ Fx (fun k => k = N ∨ x.pc.ownBlock = some k) w w') := by
      intro d' w' h1 h2 h3 h4
      have e2 : d'.toList = St.pcAdd pc now := sorted_unique (sorted_all h1.size h3) hsrt.out (by have := perm_all (by simp) h2; simpa using this)
      refine ⟨hN5.kept h4 (fun e => hNg (Option.some.inj e).symm), ?_, grown_Fx hfx5 h4 (fun i hi e => ?_)⟩
      · have := h1.row
        unfold U8.UC at this
        rw [e2] at this
        exact this
      · rcases hblk.out with h | ⟨b, h, hb⟩
        · exact .inr (by rw [← h, e])
        · have h1 := Option.some.inj h
          have h2 := Option.some.inj e
          omega
    generalize hpl : St.pcAdd pc now = pl at *
    replace hpl := hide hpl
    clear hSR ho5 hgN hN5 hfx5 ho4 ho4' hv4 hg4 hp1 hp hN1 hN e1 hcr hsrt hs hm n15 f15 hb1
    go_wp2_with fail
    refine Calls.mono HS.out ?_
    rintro e w2 ⟨rfl, d', k1, k2, k3, k4⟩
    have hf := hide (hfin.out d' w2 k1 k2 k3 k4)
    clear HS hfin k1 k2 k3 k4
    go_wp2
    go_returns
    exact ⟨_, rfl, hf.out.1, by rw [hpl.out]; exact hf.out.2.1, hf.out.2.2, hblk.out⟩
end Go.Proofs.YtakaadcpaeiccabGreat

namespace Go.Proofs.YtakaadcpaeiccabGreat
open Go.RowKit Go.Maps

/-! Whether a request may go out; how long it waits; when it went out. -/
/-- Why a request may not go out. -/
def St.holds (s : St) : Option Int := if St.full s.pc s.now then some 9 else if s.now < s.sil then some 8 else none
theorem N_full {N B : Nat} {g : NdG} {s : St} {TL : List Hp.Tm} {w : World} (n : Nd N B g s TL w) (hnow : 0 ≤ s.now ∧ s.now ≤ 4611686018427387904) :
    Calls Tryz.prog 153 #[.pointer (some ⟨N, 15, none⟩), .int .u64 s.now] w fun e w' => e = .returned (.bool (St.full s.pc s.now)) ∧ w' = w :=
  pfull_any N g.x s.pc s.now w n.nn.cr.nd n.nn.rs.pc hnow
set_option maxRecDepth 100000 in
set_option maxHeartbeats 2000000 in
theorem N_holdsBack {N B : Nat} {g : NdG} {s : St} {TL : List Hp.Tm} {w : World} (n : Nd N B g s TL w) (hnow : 0 ≤ s.now ∧ s.now ≤ 4611686018427387904) :
    Calls Tryz.prog 120 #[.pointer (some ⟨N, 0, none⟩), .int .u64 s.now] w fun e w' => e = .returned (.tuple #[.int .i64 (s.holds.getD 0), .bool s.holds.isSome]) ∧ w' = w := by
  have HF := hide (N_full n hnow)
  obtain ⟨_, _, c4, _, _⟩ := n.cell
  have hh : Hid (s.holds = if St.full s.pc s.now then some 9 else if s.now < s.sil then some 8 else none) := rfl
  generalize hb : St.full s.pc s.now = b at HF hh
  replace hb := hide hb
  go_enter Tryz.func120, Tryz.ntmps120
  go_wp2_with fail
  refine Calls.mono HF.out ?_
  rintro e w1 ⟨rfl, rfl⟩
  clear HF
  cases b
  · by_cases h : s.now < s.sil
    · have d1 : decide (s.now < s.sil) = true := decide_eq_true h
      go_wp2
      go_returns
      exact ⟨by rw [hh.out]; simp [h], rfl⟩
    · have d1 : decide (s.now < s.sil) = false := decide_eq_false h
      go_wp2
      go_returns
      exact ⟨by rw [hh.out, if_neg (by simp), if_neg (by omega)]; rfl, rfl⟩
  · go_wp2
    go_returns
    exact ⟨by rw [hh.out]; rfl, rfl⟩

/-- A request was counted. -/
theorem N_padd {N B : Nat} {g : NdG} {s : St} {TL : List Hp.Tm} {w : World} (n : Nd N B g s TL w) (hl : s.pc.length ≤ 5) (hs : s.pc.Pairwise (· ≤ ·)) (hm : ∀ t ∈ s.pc, t ≤ s.now) :
    Calls Tryz.prog 155 #[.pointer (some ⟨N, 15, none⟩), .int .u64 s.now] w fun e w' => e = .returned (.tuple #[]) ∧ NdS N B g s { s with pc := St.pcAdd s.pc s.now } TL w w' := by
  have hr := n.nn.rs
  obtain ⟨e1, e2, e3, e4, e5, e6, e7, e8, e9⟩ := n.nn.eq
  refine (padd_any N g.x s.pc s.now w n.nn.cr.nd hr.pc hl hs hm).mono ?_
  rintro e w' ⟨v', rfl, h1, h2, h3, h4⟩
  have hk : ∀ {k : Nat}, RsIn g.x g.h g.u g.Mt g.tv s k → g.x.pc.ownBlock ≠ some k → w'.heap[k]? = w.heap[k]? := fun hk hne => h3.block _ (hr.lt hk) fun h => h.elim (fun e => n.nn.apart hk (.inl e)) hne
  have hno : ∀ {k : Nat} {o : Obj}, w.heap[k]? = some o → (∀ c, o ≠ .cells c 35 (0, 0)) → g.x.pc.ownBlock ≠ some k := fun ho hc => row_not hr.pc ho hc
  obtain ⟨p, q⟩ := n.rest (s' := { s with pc := St.pcAdd s.pc s.now }) (TL' := TL) (x' := { g.x with pc := v' }) (h' := g.h) (u' := g.u) (Mt' := g.Mt) (hp' := g.hp) (tv' := g.tv) h1 rfl rfl ⟨e1, e2, e3, e4, e5, e6, e7, e8, e9⟩
    ⟨hr.sn.block (hk (.inl rfl) (by obtain ⟨es, cl, hm⟩ := hr.sn.obj; exact hno hm fun c e => by cases e)), hr.sr.kept fun k hkk => hk (.inr (.inl hkk)) (by
      obtain ⟨o, ho, ⟨rfl, es, cl, rfl⟩ | ⟨c, rfl⟩ | ⟨c, rfl⟩⟩ := hr.sr.kind hkk
      · exact hno ho fun c e => by cases e
      · exact hno ho fun c e => by cases e
      · exact hno ho fun c e => by cases e), hr.tm.at (hk (.inr (.inr (.inl rfl))) (hno hr.tm.blk fun c e => by cases e)) (hk (.inr (.inr (.inr (.inl rfl)))) (by
      obtain ⟨f, p1, _⟩ := hr.tm.map
      obtain ⟨es, cl, hm⟩ := p1.obj
      exact hno hm fun c e => by cases e)) (fun k hkk => hk (.inr (.inr (.inr (.inr (.inl hkk))))) (by
      obtain ⟨c, hc⟩ := row_obj hr.tm.row hkk
      exact hno hc fun c e => by cases e)), hr.hpo, hr.pm, h2⟩
    (h3.mono fun k h => h.imp_right fun h => .inr (.inr (.inr (.inr (.inr h)))))
    (fun k hkk => by
      rcases hkk with h | h | h | h | h | h
      · exact .inl (.inl h)
      · exact .inl (.inr (.inl h))
      · exact .inl (.inr (.inr (.inl h)))
      · exact .inl (.inr (.inr (.inr (.inl h))))
      · exact .inl (.inr (.inr (.inr (.inr (.inl h)))))
      · rcases h4 with h5 | ⟨b, h5, h6⟩
        · exact .inl (.inr (.inr (.inr (.inr (.inr (by rw [← h5]; exact h))))))
        · have h' : v'.ownBlock = some k := h
          rw [h5] at h'
          cases h'
          exact .inr ⟨h6, (h2.lt k h5).2⟩) ⟨rfl, rfl, rfl⟩ ⟨rfl, rfl, rfl, rfl, rfl, rfl, rfl, rfl, rfl⟩
  exact ⟨rfl, _, p, q, rfl, rfl, rfl⟩

set_option maxRecDepth 100000 in
set_option maxHeartbeats 2000000 in
theorem patience_any (Bq : Nat) (q : Sr) (v : Value) (w : World) (hq : SrL Bq q v w) (ok : q.Ok) :
    Calls Tryz.prog 123 #[.pointer (some ⟨Bq, 0, none⟩)] w fun e w' => e = .returned (.int .u64 (80 * (q.ttl + 2) * 2 ^ q.ret)) ∧ Below w.heap.size w w' := by
  obtain ⟨c0, c1, c2, c3, c4⟩ := hq.cell
  have h1 := ok.ttl
  have h2 := ok.ret
  have hr : q.ret = 0 ∨ q.ret = 1 ∨ q.ret = 2 := by omega
  generalize q.ttl = tt at c2 h1 ⊢
  have hb : Below w.heap.size w w.drew := (Below.refl _ _).drew
  rcases hr with hr | hr | hr <;>
  · rw [hr] at c3 ⊢
    go_enter Tryz.func123, Tryz.ntmps123
    go_wp2_with fail
    go_region
    go_wp2
    go_returns
    refine ⟨?_, hb⟩
    simp
end Go.Proofs.YtakaadcpaeiccabGreat
