import Derived.Test.YtakaadcpaeiccabGreatC37
import Derived.Test.YtakaadcpaeiccabGreatC33
import Derived.Laws.EntriesVeiled
namespace Go.Proofs.YtakaadcpaeiccabGreat
open Go.RowKit Go.Maps

/-! A search waits: its timer, and what is to be done then. -/
theorem N_tadd {N B : Nat} {g : NdG} {s : St} {TL : List Hp.Tm} {w : World} (n : Nd N B g s TL w) (t what : Int) (ht : 0 ≤ t ∧ t < 18446744073709551616) (hw : I64 what) (hl : TL.length ≤ 900000) (htl : 0 ≤ s.tl ∧ s.tl ≤ 4000000000000000000) (hid : ∀ x ∈ TL, x.2.1 ≤ s.tl) :
    Calls Tryz.prog 154 #[.pointer (some ⟨g.x.Tm, 0, none⟩), .int .u64 t, .int .i64 what] w fun e w' => ∃ h' v', e = .returned (.int .i64 (s.tl + 1)) ∧ Nd N B { g with hp := h', tv := v' } { s with tl := s.tl + 1 } (TL ++ [(t, s.tl + 1, what)]) w' ∧ Up B (Ft N g s) (Ft N { g with hp := h', tv := v' } { s with tl := s.tl + 1 }) w w' := by
  have hr := n.nn.rs
  refine (Add_any 0 g.x.Tm g.Mt s.tl g.hp g.tv w hr.tm (by rw [hr.pm.length_eq]; exact hl) hr.hpo htl.1 htl.2 (fun x hx => hid x (hr.pm.mem_iff.1 hx)) t what ht hw (Nat.zero_le _)).mono ?_
  rintro e w' ⟨rfl, h', v', h1, h2, h3, h4, h5⟩
  have hnd := n.nn.nod
  simp only [List.nodup_cons, List.mem_cons, List.not_mem_nil, or_false, not_or] at hnd
  obtain ⟨_, _, ⟨d1, d2⟩, d3, _⟩ := hnd
  have hf : Fx (fun k => k = g.x.Tm ∨ k = g.Mt ∨ g.tv.ownBlock = some k) w w' := ⟨h2.os, h2.tape, h2.output, h2.size, fun k hk hn => h2.block k hk (fun e => hn (.inl e)) (fun e => hn (.inr (.inl e))) (fun e => hn (.inr (.inr e.symm)))⟩
  have hne : ∀ {k : Nat} {o : Obj}, w.heap[k]? = some o → k ≠ g.Mt → (∀ c, o ≠ .cells c 165 (0, 0)) → (∀ c, o ≠ .cells c 254 (0, 0)) → w'.heap[k]? = w.heap[k]? := by
    intro k o ho hk c1 c2
    refine hf.block k (some_lt ho) ?_
    rintro (rfl | h | h)
    · rw [show w.heap[g.x.Tm]? = _ from hr.tm.blk] at ho
      exact c1 _ (Option.some.inj ho).symm
    · exact hk h
    · obtain ⟨c, hc⟩ := row_obj hr.tm.row h
      rw [hc] at ho
      exact c2 _ (Option.some.inj ho).symm
  have hMt : ∀ {k : Nat} {o : Obj}, w.heap[k]? = some o → (∀ es cl, o ≠ .map es cl) → k ≠ g.Mt := by
    rintro k o ho hn rfl
    obtain ⟨f, p1, _⟩ := hr.tm.map
    obtain ⟨es, cl, hm⟩ := p1.obj
    rw [hm] at ho
    exact hn _ _ (Option.some.inj ho).symm
  have hN : w'.heap[N]? = w.heap[N]? := hne (n.nn.cr.nd) (hMt n.nn.cr.nd fun _ _ e => by cases e) (fun c e => by cases e) (fun c e => by cases e)
  have hS : SrM g.x.Msr g.h g.u s.Q w' := hr.sr.kept fun k hk => by
    obtain ⟨o, ho, ⟨rfl, _, _, rfl⟩ | ⟨c, rfl⟩ | ⟨c, rfl⟩⟩ := hr.sr.kind hk
    · exact hne ho d3 (fun c e => by cases e) (fun c e => by cases e)
    · exact hne ho (hMt ho fun _ _ e => by cases e) (fun c e => by cases e) (fun c e => by cases e)
    · exact hne ho (hMt ho fun _ _ e => by cases e) (fun c e => by cases e) (fun c e => by cases e)
  have hM : SnM g.x.Ms s.tn s.mem w' := hr.sn.block (by
    obtain ⟨es, cl, hm⟩ := hr.sn.obj
    exact hne hm d2 (fun c e => by cases e) (fun c e => by cases e))
  have hP := row_at (W' := w') hr.pc fun k hk => (by
    obtain ⟨c, hc⟩ := row_obj hr.pc hk
    exact hne hc (hMt hc fun _ _ e => by cases e) (fun c e => by cases e) (fun c e => by cases e))
  obtain ⟨e1, e2, e3, e4, e5, e6, e7, e8, e9⟩ := n.nn.eq
  obtain ⟨p, u⟩ := n.rest (s' := { s with tl := s.tl + 1 }) (TL' := TL ++ [(t, s.tl + 1, what)]) (n.nn.cr.nd.block hN) rfl rfl ⟨e1, e2, e3, e4, e5, e6, e7, e8, e9⟩ (h' := g.h) (u' := g.u) (Mt' := g.Mt) (hp' := h') (tv' := v')
    ⟨hM, hS, h1, h5, h4.trans (hr.pm.append_right _), hP⟩ (hf.mono fun k hk => .inr (.inr (.inr (hk.elim .inl fun h => .inr (h.elim .inl fun h => .inr (.inl h)))))) (fun k hk => by
      rcases hk with h | h | h | h | h | h
      · exact .inl (.inl h)
      · exact .inl (.inr (.inl h))
      · exact .inl (.inr (.inr (.inl h)))
      · exact .inl (.inr (.inr (.inr (.inl h))))
      · rcases h3 with h6 | h6
        · exact .inl (.inr (.inr (.inr (.inr (.inl (by rw [← h6]; exact h))))))
        · exact .inr ⟨h6 k h, (h1.row.lt k h).2⟩
      · exact .inl (.inr (.inr (.inr (.inr (.inr h)))))) ⟨rfl, rfl, rfl⟩ ⟨rfl, rfl, rfl, rfl, rfl, rfl, rfl, rfl, rfl⟩
  exact ⟨h', v', rfl, p, u⟩
theorem setQ_mem {Q : List Sr} {q z : Sr} (h : z ∈ St.setQ Q q) : z = q ∨ (z ∈ Q ∧ z.dest ≠ q.dest) := by
  obtain ⟨y, hy, rfl⟩ := List.mem_map.1 h
  by_cases e : y.dest = q.dest
  · rw [if_pos e]; exact .inl rfl
  · rw [if_neg e]; exact .inr ⟨hy, e⟩
theorem mem_setQ {Q : List Sr} {q z : Sr} (h : z ∈ Q) : (z.dest = q.dest → q ∈ St.setQ Q q) ∧ (z.dest ≠ q.dest → z ∈ St.setQ Q q) :=
  ⟨fun e => List.mem_map.2 ⟨z, h, by rw [if_pos e]⟩, fun e => List.mem_map.2 ⟨z, h, by rw [if_neg e]⟩⟩
theorem setQ_dest (Q : List Sr) (q : Sr) : (St.setQ Q q).map (·.dest) = Q.map (·.dest) := by
  unfold St.setQ
  rw [List.map_map]
  refine List.map_congr_left fun z _ => ?_
  show (if z.dest = q.dest then q else z).dest = z.dest
  split
  · rename_i h; exact h.symm
  · rfl
theorem setQ_len (Q : List Sr) (q : Sr) : (St.setQ Q q).length = Q.length := List.length_map _
theorem pw_dest {Q : List Sr} : (Q.Pairwise fun a b => a.dest ≠ b.dest) ↔ (Q.map (·.dest)).Nodup := by
  unfold List.Nodup
  rw [List.pairwise_map]
/-- One search is another now. -/
theorem SrM.set {Ms : Nat} {h : Int → Option Nat} {u : Int → Value} {Q : List Sr} {W W' : World} (r : SrM Ms h u Q W) {q q' : Sr} (hq : q ∈ Q) (hd : q'.dest = q.dest) (hok : q'.Ok) (ht : q'.txt = q.txt) {Bq : Nat} (hB : h q.dest = some Bq) (hL : SrL Bq q' (u q.dest) W') (hf : Fx (fun k => k = Bq) W W') : SrM Ms h u (St.setQ Q q') W' := by
  have hMs : Ms ≠ Bq := by
    rintro rfl
    obtain ⟨B', h1, h2⟩ := r.ln q hq
    rw [hB] at h1
    cases h1
    obtain ⟨es, cl, hm⟩ := r.map.obj
    obtain ⟨c, hc⟩ := h2.obj
    rw [hc] at hm
    cases hm
  have hrow : ∀ z ∈ Q, ∀ k, (u z.dest).ownBlock = some k → k ≠ Bq := by
    rintro z hz k hk rfl
    obtain ⟨B', h1, h2⟩ := r.ln q hq
    rw [hB] at h1
    cases h1
    obtain ⟨c, hc⟩ := h2.obj
    obtain ⟨c', hc'⟩ := row_obj (r.row z hz) hk
    rw [hc] at hc'
    cases hc'
  have hself : ∀ z ∈ Q, z.dest = q.dest → z = q := by
    have : ∀ (Q : List Sr), Q.Pairwise (fun a b => a.dest ≠ b.dest) → ∀ z ∈ Q, ∀ y ∈ Q, z.dest = y.dest → z = y := by
      intro Q
      induction Q with
      | nil => intro _ z hz; cases hz
      | cons a Q ih =>
        intro hp z hz y hy e
        rw [List.pairwise_cons] at hp
        rcases List.mem_cons.1 hz with k1 | k1
        · rcases List.mem_cons.1 hy with k2 | k2
          · rw [k1, k2]
          · exact absurd (k1 ▸ e) (hp.1 y k2)
        · rcases List.mem_cons.1 hy with k2 | k2
          · exact absurd (k2 ▸ e).symm (hp.1 z k1)
          · exact ih hp.2 z k1 y k2 e
    exact fun z hz e => this Q r.nod z hz q hq e
  have horig : ∀ z ∈ St.setQ Q q', ∃ y ∈ Q, y.dest = z.dest := fun z hz => by
    rcases setQ_mem hz with rfl | ⟨h1, _⟩
    · exact ⟨q, hq, hd.symm⟩
    · exact ⟨z, h1, rfl⟩
  refine ⟨by rw [setQ_len]; exact r.map.block (hf.block _ r.map.lt hMs), by rw [pw_dest, setQ_dest, ← pw_dest]; exact r.nod, fun z hz => ?_, fun d B hd' hB' => ?_, fun z hz => ?_, fun z hz => ?_, fun a ha b hb hne => ?_, by rw [setQ_len]; exact r.len⟩
  · rcases setQ_mem hz with rfl | ⟨h1, _⟩
    · exact hok
    · exact r.ok z h1
  · obtain ⟨y, hy, rfl⟩ := r.dom d B hd' hB'
    by_cases e : y.dest = q'.dest
    · exact ⟨q', (mem_setQ hy).1 e, e.symm⟩
    · exact ⟨y, (mem_setQ hy).2 e, rfl⟩
  · rcases setQ_mem hz with rfl | ⟨h1, h2⟩
    · rw [hd]
      exact ⟨Bq, hB, hL⟩
    · obtain ⟨B', k1, k2⟩ := r.ln z h1
      refine ⟨B', k1, k2.block (hf.block _ k2.lt ?_)⟩
      rintro rfl
      obtain ⟨B2, l1, l2⟩ := r.ln q hq
      rw [hB] at l1
      cases l1
      obtain ⟨fn1, m1, _⟩ := k2
      obtain ⟨fn2, m2, _⟩ := l2
      unfold SrB at m1 m2
      rw [m1] at m2
      simp only [srBox, Option.some.injEq, Obj.cells.injEq, Array.mk.injEq, List.cons.injEq, Value.int.injEq, true_and] at m2
      exact h2 (m2.1.1.trans hd.symm)
  · rcases setQ_mem hz with rfl | ⟨h1, h2⟩
    · rw [hd, ht]
      exact row_at (r.row q hq) fun k hk => hf.block k ((r.row q hq).lt k hk).2 (hrow q hq k hk)
    · exact row_at (r.row z h1) fun k hk => hf.block k ((r.row z h1).lt k hk).2 (hrow z h1 k hk)
  · obtain ⟨y, hy, e1⟩ := horig a ha
    obtain ⟨x, hx, e2⟩ := horig b hb
    rw [← e1, ← e2]
    exact r.apart y hy x hx (by rw [e1, e2]; exact hne)
/-- .. in a whole node. -/
theorem Nd.setS {N B : Nat} {g : NdG} {s : St} {TL : List Hp.Tm} {W W' : World} (n : Nd N B g s TL W) {q q' : Sr} (hq : q ∈ s.Q) (hd : q'.dest = q.dest) (hok : q'.Ok) (ht : q'.txt = q.txt) {Bq : Nat} (hB : g.h q.dest = some Bq) (hL : SrL Bq q' (g.u q.dest) W') (hf : Fx (fun k => k = Bq) W W') :
    Nd N B g { s with Q := St.setQ s.Q q' } TL W' ∧ Up B (Ft N g s) (Ft N g { s with Q := St.setQ s.Q q' }) W W' := by
  have hr := n.nn.rs
  obtain ⟨e1, e2, e3, e4, e5, e6, e7, e8, e9⟩ := n.nn.eq
  obtain ⟨B', h1, h2⟩ := hr.sr.ln q hq
  rw [hB] at h1
  cases h1
  obtain ⟨c, hc⟩ := h2.obj
  have hno : ∀ {k : Nat} {o : Obj}, W.heap[k]? = some o → (∀ c, o ≠ .cells c 177 (0, 0)) → W'.heap[k]? = W.heap[k]? := fun {k o} ho hn => hf.block k (some_lt ho) (by
    rintro rfl
    rw [hc] at ho
    exact hn _ (Option.some.inj ho).symm)
  have hBin : RsIn g.x g.h g.u g.Mt g.tv s Bq := .inr (.inl (.inr ⟨q, hq, .inl hB⟩))
  have horig : ∀ z ∈ St.setQ s.Q q', ∃ y ∈ s.Q, y.dest = z.dest := fun z hz => by
    rcases setQ_mem hz with rfl | ⟨h1, _⟩
    · exact ⟨q, hq, hd.symm⟩
    · exact ⟨z, h1, rfl⟩
  exact n.rest (s' := { s with Q := St.setQ s.Q q' }) (TL' := TL) (x' := g.x) (h' := g.h) (u' := g.u) (Mt' := g.Mt) (hp' := g.hp) (tv' := g.tv) (n.nn.cr.nd.block (hno n.nn.cr.nd fun _ e => by cases e)) rfl rfl ⟨e1, e2, e3, e4, e5, e6, e7, e8, e9⟩
    ⟨hr.sn.block (by obtain ⟨es, cl, hm⟩ := hr.sn.obj; exact hno hm fun _ e => by cases e), hr.sr.set hq hd hok ht hB hL hf, hr.tm.at (hno hr.tm.blk fun _ e => by cases e) (by
      obtain ⟨f, p1, _⟩ := hr.tm.map
      obtain ⟨es, cl, hm⟩ := p1.obj
      exact hno hm fun _ e => by cases e) (fun k hk => by
      obtain ⟨c, hc⟩ := row_obj hr.tm.row hk
      exact hno hc fun _ e => by cases e), hr.hpo, hr.pm, row_at hr.pc fun k hk => by
      obtain ⟨c, hc⟩ := row_obj hr.pc hk
      exact hno hc fun _ e => by cases e⟩
    (hf.mono fun k e => by rw [e]; exact .inr hBin) (fun k hk => .inl (by
      rcases hk with h | h | h
      · exact .inl h
      · refine .inr (.inl ?_)
        rcases h with h | ⟨z, hz, h⟩
        · exact .inl h
        · obtain ⟨y, hy, e⟩ := horig z hz
          rw [← e] at h
          exact .inr ⟨y, hy, h⟩
      · exact .inr (.inr h))) ⟨rfl, rfl, rfl⟩ ⟨rfl, rfl, rfl, rfl, rfl, rfl, rfl, rfl, rfl⟩
end Go.Proofs.YtakaadcpaeiccabGreat

namespace Go.Proofs.YtakaadcpaeiccabGreat
open Go.RowKit Go.Maps

@[reducible] def HWt (N Bq Tm : Nat) (d : Int) (W : World) : Prop := W.cell? ⟨N, 14, none⟩ = some (.pointer (some ⟨Tm, 0, none⟩)) ∧ W.cell? ⟨Bq, 0, none⟩ = some (.int .u32 d)
theorem HWt.of {N B : Nat} {g : NdG} {s : St} {TL : List Hp.Tm} {W : World} (n : Nd N B g s TL W) {q : Sr} (hq : q ∈ s.Q) {Bq : Nat} (hB : g.h q.dest = some Bq) : HWt N Bq g.x.Tm q.dest W := by
  obtain ⟨B', h1, h2⟩ := n.nn.rs.sr.ln q hq
  rw [hB] at h1
  cases h1
  exact ⟨n.nn.cr.nd.more.2.2.2.1, h2.cell.1⟩
theorem SrB.setTm {B : Nat} {q : Sr} {v fn : Value} {W : World} (h : SrB B q v fn W) (i : Int) : SrB B { q with id := i } v fn (W.setCell ⟨B, 4, none⟩ (.int .i64 i)) := by
  unfold SrB at h ⊢
  simp [World.setCell, Array.getElem?_modify, h]
theorem SrB.setFn {B : Nat} {q : Sr} {v fn : Value} {W : World} (h : SrB B q v fn W) (f : Value) : SrB B q v f (W.setCell ⟨B, 5, none⟩ f) := by
  unfold SrB at h ⊢
  simp [World.setCell, Array.getElem?_modify, h]
theorem setQ_twice (Q : List Sr) {a b : Sr} (h : a.dest = b.dest) : St.setQ (St.setQ Q a) b = St.setQ Q b := by
  unfold St.setQ
  rw [List.map_map]
  refine List.map_congr_left fun z _ => ?_
  show (if (if z.dest = a.dest then a else z).dest = b.dest then b else (if z.dest = a.dest then a else z)) = _
  by_cases e : z.dest = a.dest
  · rw [if_pos e, if_pos h, if_pos (e.trans h)]
  · rw [if_neg e]
/-- What the wait of a search leaves. -/
def WtP (N B : Nat) (g : NdG) (s : St) (TL : List Hp.Tm) (q : Sr) (t : Int) (o : Bool) (w w' : World) : Prop :=
  ∃ g', Nd N B g' { s with tl := s.tl + 1, Q := St.setQ s.Q { q with due := t, id := s.tl + 1, out := o } } (TL ++ [(t, s.tl + 1, q.dest)]) w' ∧ Up B (Ft N g s) (Ft N g' { s with tl := s.tl + 1, Q := St.setQ s.Q { q with due := t, id := s.tl + 1, out := o } }) w w' ∧ Hid (g'.x.T = g.x.T) ∧ Hid (g'.h = g.h ∧ g'.u = g.u)

set_option maxRecDepth 100000 in
set_option maxHeartbeats 4000000 in
theorem N_wait {N B : Nat} {g : NdG} {s : St} {TL : List Hp.Tm} {w : World} (n : Nd N B g s TL w) (q : Sr) (hq : q ∈ s.Q) (Bq : Nat) (hB : g.h q.dest = some Bq) (t : Int) (ht : 0 ≤ t ∧ t < 18446744073709551616) (o : Bool) (hl : TL.length ≤ 900000) (htl : 0 ≤ s.tl ∧ s.tl ≤ 4000000000000000000) (hid : ∀ x ∈ TL, x.2.1 ≤ s.tl) :
    Calls Tryz.prog 121 #[.pointer (some ⟨Bq, 0, none⟩), .pointer (some ⟨N, 0, none⟩), .int .u64 t, srFn o Bq] w fun e w' => e = .returned (.tuple #[]) ∧ WtP N B g s TL q t o w w' := by
  have hok := n.nn.rs.sr.ok q hq
  have hS : HWt N Bq g.x.Tm q.dest w.drew := HWt.of n.drew hq hB
  have hd64 : I64 q.dest := by have := hok.dest; unfold U32 at this; unfold I64; omega
  have HA := hide (N_tadd n.drew t q.dest ht hd64 hl htl hid)
  have hwc : IntKind.i64.wrap q.dest = q.dest := by
    have := hok.dest
    unfold U32 at this
    simp only [IntKind.wrap, IntKind.signed, IntKind.bits]
    simp
    omega
  have hK : Hid (∀ h' v' w2, Nd N B { g with hp := h', tv := v' } { s with tl := s.tl + 1 } (TL ++ [(t, s.tl + 1, q.dest)]) w2 → HWt N Bq g.x.Tm q.dest w2 ∧ (∃ x, w2.cell? ⟨Bq, 4, none⟩ = some x) ∧ w2.frozen? ⟨Bq, 4, none⟩ = false ∧ HWt N Bq g.x.Tm q.dest (w2.setCell ⟨Bq, 4, none⟩ (.int .i64 (s.tl + 1))) ∧ (∃ x, (w2.setCell ⟨Bq, 4, none⟩ (.int .i64 (s.tl + 1))).cell? ⟨Bq, 5, none⟩ = some x) ∧ (w2.setCell ⟨Bq, 4, none⟩ (.int .i64 (s.tl + 1))).frozen? ⟨Bq, 5, none⟩ = false ∧
      ∀ u, Up B u (Ft N { g with hp := h', tv := v' } { s with tl := s.tl + 1 }) w w2 → u = Ft N g s → WtP N B g s TL q t o w ((w2.setCell ⟨Bq, 4, none⟩ (.int .i64 (s.tl + 1))).setCell ⟨Bq, 5, none⟩ (srFn o Bq))) := by
    intro h' v' w2 n2
    obtain ⟨B', h1, fn, h2, _⟩ := n2.nn.rs.sr.ln q hq
    rw [show ({ g with hp := h', tv := v' } : NdG).h q.dest = some Bq from hB] at h1
    cases h1
    have h3 := h2.setTm (s.tl + 1)
    have h4 := h3.setFn (srFn o Bq)
    have hNB : N ≠ Bq := by
      rintro rfl
      unfold SrB at h2
      rw [show w2.heap[N]? = _ from n2.nn.cr.nd] at h2
      cases h2
    have hgB : w2.grownBy ((w2.setCell ⟨Bq, 4, none⟩ (.int .i64 (s.tl + 1))).setCell ⟨Bq, 5, none⟩ (srFn o Bq)) (some Bq) := grown_cellOf (grown_cellOf (grown_self _ (some Bq)) 4 _) 5 _
    have hN3 : NdB N g.x (w2.setCell ⟨Bq, 4, none⟩ (.int .i64 (s.tl + 1))) := (n2.nn.cr.nd).kept (grown_cellOf (grown_self _ (some Bq)) 4 _) (fun e => hNB (Option.some.inj e).symm)
    refine ⟨⟨n2.nn.cr.nd.more.2.2.2.1, h2.cell.1⟩, ⟨_, h2.cell.2.2.2.2.1⟩, h2.free 4, ⟨hN3.more.2.2.2.1, h3.cell.1⟩, ⟨_, h3.cell.2.2.2.2.2⟩, h3.free 5, ?_⟩
    rintro u up rfl
    have hL : SrL Bq { q with due := t, id := s.tl + 1, out := o } (g.u q.dest) ((w2.setCell ⟨Bq, 4, none⟩ (.int .i64 (s.tl + 1))).setCell ⟨Bq, 5, none⟩ (srFn o Bq)) := ⟨_, h4, fun _ => rfl⟩
    obtain ⟨p, uu⟩ := n2.setS (q' := { q with due := t, id := s.tl + 1, out := o }) hq rfl ⟨hok.dest, hok.ttl, hok.ret, hok.txt, hok.siz, by dsimp only; omega⟩ rfl hB hL (Fx.grown hgB fun k e => by cases e; rfl)
    exact ⟨_, p, up.trans uu, rfl, rfl, rfl⟩
  obtain ⟨fv, a1, hfv⟩ : ∃ fv a1, srFn o Bq = .func fv a1 #[] := ⟨_, _, rfl⟩
  rw [hfv] at hK ⊢
  clear n hok hfv
  go_enter Tryz.func121, Tryz.ntmps121
  go_wp2_with fail
  go_region_held3 (HWt N Bq g.x.Tm q.dest) (first | with_reducible exact hS | with_reducible assumption) ((go_at_call 154; refine HA.out.mono ?_; rintro e w2 ⟨h', v', rfl, n2, u2⟩; obtain ⟨k1, ⟨x4, k2⟩, k3, k4, ⟨x5, k5⟩, k6, k7⟩ := hK.out h' v' w2 n2; have hfin := hide (k7 _ ((Up.below (Below.refl _ _).drew).trans u2) rfl); clear k7 n2 u2))
  rename_i hHx
  clear hHx hS HA hK k1 k4
  go_wp2
  go_returns
  exact ⟨rfl, hfin.out⟩
end Go.Proofs.YtakaadcpaeiccabGreat

namespace Go.Proofs.YtakaadcpaeiccabGreat
open Go.RowKit Go.Maps

theorem N_seenAddS {N B : Nat} {g : NdG} {s : St} {TL : List Hp.Tm} {w : World} (n : Nd N B g s TL w) (q : Int × Int) (hq : QOk q) (til : Int) (h0 : 0 ≤ til) (hm : ∀ e ∈ s.mem, e.til ≤ til) (htn : s.tn ≤ 4611686018427387904) :
    Calls Tryz.prog 156 #[.pointer (some ⟨N, 8, none⟩), encQ q, .int .u64 til] w fun e w' => e = .returned (.tuple #[]) ∧ NdS N B g s { s with mem := seenAdd s.mem q til s.tn, tn := s.tn + 1 } TL w w' := by
  have h := n.nn.rs.sn
  rw [← n.nn.eq.tn] at h htn
  refine (seen_add N g.x s.mem q hq til h0 hm htn w n.nn.cr.nd h).mono ?_
  rintro e w' ⟨rfl, h1, h2, h3⟩
  rw [n.nn.eq.tn] at h1 h2
  obtain ⟨e1, e2, e3, e4, e5, e6, e7, e8, e9⟩ := n.nn.eq
  have hr := n.nn.rs
  have hne : ∀ k, RsIn g.x g.h g.u g.Mt g.tv s k → k ≠ g.x.Ms → ¬ (k = N ∨ k = g.x.Ms) := fun k hk h1 h2 => h2.elim (fun e => n.nn.apart hk (.inl e)) h1
  have hnd := n.nn.nod
  simp only [List.nodup_cons, List.mem_cons, List.not_mem_nil, or_false, not_or] at hnd
  obtain ⟨_, _, ⟨d1, d2⟩, _⟩ := hnd
  have hMap : ∀ {k : Nat} {o : Obj}, w.heap[k]? = some o → (∀ es cl, o ≠ .map es cl) → k ≠ g.x.Ms := by
    rintro k o ho hn rfl
    obtain ⟨es, cl, hm⟩ := hr.sn.obj
    rw [hm] at ho
    exact hn _ _ (Option.some.inj ho).symm
  have hkeep : ∀ {k : Nat}, RsIn g.x g.h g.u g.Mt g.tv s k → k ≠ g.x.Ms → w'.heap[k]? = w.heap[k]? := fun hk h => h3.block _ (hr.lt hk) (hne _ hk h)
  have hSr : ∀ k, SrIn g.x.Msr g.h g.u s.Q k → k ≠ g.x.Ms := by
    intro k hk
    obtain ⟨o, ho, ⟨rfl, _⟩ | ⟨c, rfl⟩ | ⟨c, rfl⟩⟩ := hr.sr.kind hk
    · exact Ne.symm d1
    · exact hMap ho (fun _ _ h => by cases h)
    · exact hMap ho (fun _ _ h => by cases h)
  obtain ⟨p, q⟩ := n.rest (s' := { s with mem := seenAdd s.mem q til s.tn, tn := s.tn + 1 }) (TL' := TL) h1 rfl rfl ⟨e1, e2, e3, e4, e5, rfl, e7, e8, e9⟩
    ⟨h2, hr.sr.kept fun k hk => hkeep (.inr (.inl hk)) (hSr k hk), hr.tm.at (hkeep (.inr (.inr (.inl rfl))) (hMap hr.tm.blk (fun _ _ h => by cases h))) (hkeep (.inr (.inr (.inr (.inl rfl)))) (Ne.symm d2)) (fun k hk => hkeep (.inr (.inr (.inr (.inr (.inl hk))))) (by
      obtain ⟨c, hc⟩ := row_obj hr.tm.row hk
      exact hMap hc (fun _ _ h => by cases h))), hr.hpo, hr.pm, row_at hr.pc fun k hk => hkeep (.inr (.inr (.inr (.inr (.inr hk))))) (by
      obtain ⟨c, hc⟩ := row_obj hr.pc hk
      exact hMap hc (fun _ _ h => by cases h))⟩
    (h3.mono fun k h => h.elim .inl fun h => .inr (.inl h)) (fun k hk => .inl hk) ⟨rfl, rfl, rfl⟩ ⟨rfl, rfl, rfl, rfl, rfl, rfl, rfl, rfl, rfl⟩
  exact ⟨rfl, _, p, q, rfl, rfl, rfl⟩

theorem N_writeS {N B : Nat} {g : NdG} {s : St} {TL : List Hp.Tm} {w : World} (n : Nd N B g s TL w) (hd : s.Dom) (hc : 0 ≤ s.cnt ∧ s.cnt ≤ 1000000) (hw : s.nws.length ≤ 90000) :
    Calls Tryz.prog 71 #[.pointer (some ⟨N, 0, none⟩), .pointer (some ⟨B, 0, none⟩)] w fun e w' => e = .returned (.tuple #[]) ∧ NdS N B g s s.write TL w w' := by
  obtain ⟨e1, e2, e3, e4, e5, e6, e7, e8, e9⟩ := n.nn.eq
  refine (write_any N B (B + 1) g.x g.a g.M g.ff g.gg s.A s.f g.sz s.nws s.frs s.cms s.drs w n.nn.cr n.ac n.base (by rw [e8]; exact hc) n.nn.siz hw).mono ?_
  rintro e w' ⟨v7, sz', rfl, h1, _, h3, h4⟩
  have hn : newsP g.x.seq g.x.own s.f s.A = newsP s.seq s.own s.f s.A := by rw [e2, e7]
  rw [hn] at h1 h3
  have hz : sz' ≤ 8 := h1.size_le (newsP_dom hd.on)
  obtain ⟨p, q⟩ := n.core (s' := s.write) h1 h3 (h4.mono fun k h => by
    rcases h with rfl | rfl | h
    · exact .inl (.inl rfl)
    · exact .inl (.inr (.inl rfl))
    · exact .inr h) (fun k hk => hk) ⟨rfl, rfl, rfl, rfl, rfl⟩ ⟨e1, e2, e3, e4, e5, e6, by dsimp only; rw [e2, e7]; rfl, by dsimp only; rw [e8]; rfl, e9⟩ ⟨rfl, rfl, rfl, rfl, rfl⟩ (by omega) n.now n.rep
  exact ⟨rfl, _, p, q, rfl, rfl, rfl⟩
/-- The cells that a request reads. -/
@[reducible] def HRq (N B T : Nat) (me seq lr now : Int) (W : World) : Prop := W.cell? ⟨N, 2, none⟩ = some (.int .u32 me) ∧ W.cell? ⟨N, 3, none⟩ = some (.int .u32 seq) ∧ W.cell? ⟨N, 5, none⟩ = some (.int .u32 lr) ∧ W.cell? ⟨N, 7, none⟩ = some (.pointer (some ⟨T, 0, none⟩)) ∧ W.cell? ⟨B, 0, none⟩ = some (.int .u64 now)
theorem HRq.of {N B : Nat} {g : NdG} {s : St} {TL : List Hp.Tm} {W : World} (n : Nd N B g s TL W) : HRq N B g.x.T s.me s.seq s.lreq s.now W := by
  have h := n.nn.cr.nd.more.1
  rw [n.nn.eq.lreq] at h
  exact ⟨n.cell.1, n.cell.2.1, h, n.cell.2.2.2.1, n.cell.2.2.2.2⟩
theorem reqP_wf {ttl i d q me sq : Int} {u : Bool} (ht : 0 ≤ ttl ∧ ttl ≤ 255) (hi : U32 i) (hd : U32 d) (hq : U32 q) (hm : U32 me) (hs : U32 sq) : (St.reqP ttl u i d q me sq).Wf := by
  unfold U32 at hi hd hq hm hs
  have hz : (⟨#[]⟩ : ByteArray).size = 0 := rfl
  constructor <;> (dsimp only [St.reqP]; omega)
theorem numL_u32 {A : List Rt} (hA : ∀ y ∈ A, y.Ok) (d : Int) : U32 (numL A d) := by
  unfold numL
  cases hl : lineOf A d with
  | none => simp [U32]
  | some y => exact (hA y (List.mem_of_find?_eq_some hl)).seq
/-- What the sending of a request asks of a node. -/
structure St.Rdy (s : St) : Prop where
  me : U32 s.me
  seq : U32 s.seq
  now : 0 ≤ s.now ∧ s.now ≤ 4611686018427387904
  mem : ∀ e ∈ s.mem, e.til ≤ s.now + 1280
  dom : s.Dom
  cnt : 0 ≤ s.cnt ∧ s.cnt ≤ 900000
  nws : s.nws.length ≤ 80000
  frs : s.frs.length ≤ 900000
  tn : s.tn ≤ 4000000000000000000
  pcl : s.pc.length ≤ 5
  pcs : s.pc.Pairwise (· ≤ ·)
  pcn : ∀ t ∈ s.pc, t ≤ s.now

set_option maxRecDepth 100000 in
set_option maxHeartbeats 8000000 in
theorem N_request {N B : Nat} {g : NdG} {s : St} {TL : List Hp.Tm} {w : World} (n : Nd N B g s TL w) (hR : s.Rdy) (d ttl : Int) (hd : U32 d) (ht : 0 ≤ ttl ∧ ttl ≤ 255) :
    Calls Tryz.prog 122 #[.pointer (some ⟨N, 0, none⟩), .pointer (some ⟨B, 0, none⟩), .int .u32 d, .int .i64 ttl] w fun e w' => e = .returned (.tuple #[]) ∧ NdS N B g s (s.request d ttl) TL w w' := by
  obtain ⟨s9, hs9⟩ : ∃ z, s.request d ttl = z := ⟨_, rfl⟩
  rw [hs9]
  replace hs9 := hide hs9
  obtain ⟨c2, c3, c5, c7, c0⟩ := HRq.of n
  have f3 := n.nn.cr.nd.free 3
  have f5 := n.nn.cr.nd.free 5
  have hg0 := gr_u32 hR.seq
  obtain ⟨q1, hq1⟩ : ∃ z, gr s.seq = z := ⟨_, rfl⟩
  rw [hq1] at hg0
  have HG := hide (grown_any s.seq w)
  rw [hq1] at HG
  replace hq1 := hide hq1
  have hl1 : U32 ((s.lreq + 1) % 4294967296) := by unfold U32; omega
  obtain ⟨l1, hl⟩ : ∃ z, (s.lreq + 1) % 4294967296 = z := ⟨_, rfl⟩
  rw [hl] at hl1
  have hg1 : w.grownBy ((w.setCell ⟨N, 3, none⟩ (.int .u32 q1)).setCell ⟨N, 5, none⟩ (.int .u32 l1)) (some N) := grown_cellOf (grown_cellOf (grown_self _ (some N)) 3 _) 5 _
  obtain ⟨e1, e2, e3, e4, e5, e6, e7, e8, e9⟩ := n.nn.eq
  obtain ⟨n1, u1⟩ := n.cells (s' := { s with seq := q1, lreq := l1 }) ((n.nn.cr.nd.setSeq q1).setLreq l1) (Fx.grown hg1 fun k e => by cases e; rfl) ⟨e1, rfl, e3, rfl, e5, e6, e7, e8, e9⟩ ⟨rfl, rfl, rfl, rfl, rfl, rfl⟩ ⟨rfl, rfl, rfl, rfl, rfl, rfl, rfl, rfl, rfl⟩ ⟨rfl, rfl, rfl, rfl, rfl⟩
  have v1 : Hid (({ g with x := { g.x with seq := q1, lreq := l1 } } : NdG).x.T = g.x.T) := rfl
  have y1 : Hid (({ g with x := { g.x with seq := q1, lreq := l1 } } : NdG).h = g.h ∧ ({ g with x := { g.x with seq := q1, lreq := l1 } } : NdG).u = g.u) := ⟨rfl, rfl⟩
  generalize ({ g with x := { g.x with seq := q1, lreq := l1 } } : NdG) = g1 at n1 u1 v1 y1
  have hA := n.nn.cr.tb.ok
  obtain ⟨s1, hs1⟩ : ∃ z, ({ s with seq := q1, lreq := l1 } : St) = z := ⟨_, rfl⟩
  rw [hs1] at n1 u1
  have hd1 : s1.Dom := by rw [← hs1]; exact ⟨hR.dom.mb, hR.dom.on, hR.dom.own⟩
  have hc1 : 0 ≤ s1.cnt ∧ s1.cnt ≤ 900000 := by rw [← hs1]; exact hR.cnt
  have hw1 : s1.nws.length ≤ 80000 := by rw [← hs1]; exact hR.nws
  have HW := hide (N_writeS n1 hd1 (by omega) (by omega))
  obtain ⟨s2, hs2⟩ : ∃ z, s1.write = z := ⟨_, rfl⟩
  rw [hs2] at HW
  have h2 : Hid (s2.me = s.me ∧ s2.seq = q1 ∧ s2.lreq = l1 ∧ s2.now = s.now ∧ s2.pc = s.pc ∧ s2.mem = s.mem ∧ s2.tn = s.tn ∧ s2.frs = s.frs ∧ s2.A = s.A ∧ { s2 with pc := St.pcAdd s2.pc s2.now, mem := seenAdd s2.mem (s2.me, s2.lreq) (s2.now + 1280) s2.tn, tn := s2.tn + 1 }.send 0 (St.reqP ttl (!(lineOf s2.A d).isSome) s2.lreq d (numL s2.A d) s2.me s2.seq) [] = s9) := by
    show _ ∧ _
    rw [← hs2, ← hs1]
    refine ⟨rfl, rfl, rfl, rfl, rfl, rfl, rfl, rfl, rfl, ?_⟩
    rw [← hs9.out, ← hl, ← hq1.out]
    rfl
  replace hl := hide hl
  have hmod : Hid (IntKind.u32.wrap (s.lreq + 1) = l1) := by
    show _ = _
    rw [← hl.out]
    simp only [IntKind.wrap, IntKind.signed, IntKind.bits]
    simp
  clear hs1 hs2 e1 e2 e3 e4 e5 e6 e7 e8 e9 n hg1 hd1 hc1 hw1 n1
  go_enter Tryz.func122, Tryz.ntmps122
  go_wp2_with fail
  refine Calls.mono HG.out ?_
  rintro e w' ⟨rfl, rfl⟩
  go_wp2_with fail
  rw [hl.out]
  clear HG hmod hl hq1
  refine Calls.mono HW.out ?_
  rintro e w2 ⟨rfl, g2, n2, u2, t2, y2⟩
  have ua2 := u1.trans u2
  have tt2 : Hid (g2.x.T = g.x.T) := t2.out.trans v1.out
  have yy2 : Hid (g2.h = g.h ∧ g2.u = g.u) := ⟨y2.out.1.trans y1.out.1, y2.out.2.trans y1.out.2⟩
  obtain ⟨a1, a2, a3, a4, a5, a6, a7, a8, a9, a10⟩ := h2.out
  have hnow2 : Hid (0 ≤ s2.now ∧ s2.now ≤ 4611686018427387904) := by rw [a4]; exact hR.now
  have HP := hide (N_padd n2.drew (by rw [a5]; exact hR.pcl) (by rw [a5]; exact hR.pcs) (by rw [a5, a4]; exact hR.pcn))
  have hmem2 : Hid (∀ e ∈ s2.mem, e.til ≤ s2.now + 1280) := by rw [a6, a4]; exact hR.mem
  have htn2 : Hid (s2.tn ≤ 4000000000000000000) := by rw [a7]; exact hR.tn
  have hU2 : Hid (U32 s2.me ∧ U32 s2.seq ∧ U32 s2.lreq) := by rw [a1, a2, a3]; exact ⟨hR.me, hg0, hl1⟩
  have hfr2 : Hid (s2.frs.length ≤ 900000) := by rw [a8]; exact hR.frs
  have hA2 : Hid (∀ y ∈ s2.A, y.Ok) := by rw [a9]; exact hA
  have hfin2 := hide a10
  clear a1 a2 a3 a4 a5 a6 a7 a8 a9 a10 h2 HW u1 u2 t2 y2 v1 y1 hR c2 c3 c5 c7 c0 f3 f5 hg0 hl1 hA
  have hS : HRq N B g2.x.T s2.me s2.seq s2.lreq s2.now w2.drew := HRq.of n2.drew
  have ub2 := ua2.trans (.below (Below.refl _ _).drew : Up B (Ft N g2 s2) (Ft N g2 s2) w2 w2.drew)
  clear n2 ua2
  go_wp2_with fail
  go_region_held3 (HRq N B g2.x.T s2.me s2.seq s2.lreq s2.now) (first | with_reducible exact hS | with_reducible assumption) ((go_at_call 155; refine HP.out.mono ?_; rintro e w3 ⟨rfl, g3, n3, u3, t3, y3⟩; have hk3 : HRq N B g2.x.T s2.me s2.seq s2.lreq s2.now w3 := by have h := HRq.of n3; rw [t3.out] at h; exact h))
  rename_i hHx
  clear hHx hk3 hS HP
  have ub3 := ub2.trans u3
  have tt3 : Hid (g3.x.T = g.x.T) := t3.out.trans tt2.out
  have yy3 : Hid (g3.h = g.h ∧ g3.u = g.u) := ⟨y3.out.1.trans yy2.out.1, y3.out.2.trans yy2.out.2⟩
  obtain ⟨s3, hs3⟩ : ∃ z, ({ s2 with pc := St.pcAdd s2.pc s2.now } : St) = z := ⟨_, rfl⟩
  have h3 : Hid (s3.me = s2.me ∧ s3.seq = s2.seq ∧ s3.lreq = s2.lreq ∧ s3.now = s2.now ∧ s3.mem = s2.mem ∧ s3.tn = s2.tn ∧ s3.frs = s2.frs ∧ s3.A = s2.A ∧ { s3 with mem := seenAdd s3.mem (s3.me, s3.lreq) (s3.now + 1280) s3.tn, tn := s3.tn + 1 }.send 0 (St.reqP ttl (!(lineOf s3.A d).isSome) s3.lreq d (numL s3.A d) s3.me s3.seq) [] = s9) := by
    show _ ∧ _
    rw [← hs3]
    exact ⟨rfl, rfl, rfl, rfl, rfl, rfl, rfl, rfl, hfin2.out⟩
  rw [hs3] at n3 ub3
  obtain ⟨a1, a2, a3, a4, a5, a6, a7, a8, a9⟩ := h3.out
  have hnow3 : 0 ≤ s3.now ∧ s3.now ≤ 4611686018427387904 := by rw [a4]; exact hnow2.out
  have HSn : Hid (∀ t, t = s3.now + 1280 → Calls Tryz.prog 156 #[.pointer (some ⟨N, 8, none⟩), encQ (s3.me, s3.lreq), .int .u64 t] w3.drew fun e w' => e = .returned (.tuple #[]) ∧ NdS N B g3 s3 { s3 with mem := seenAdd s3.mem (s3.me, s3.lreq) (s3.now + 1280) s3.tn, tn := s3.tn + 1 } TL w3.drew w') := by
    rintro _ rfl
    exact N_seenAddS n3.drew (s3.me, s3.lreq) ⟨by rw [a1]; exact hU2.out.1, by rw [a3]; exact hU2.out.2.2⟩ (s3.now + 1280) (by omega) (by rw [a5, a4]; exact hmem2.out) (by rw [a6]; have := htn2.out; omega)
  dsimp only [encQ] at HSn
  have hU3 : Hid (U32 s3.me ∧ U32 s3.seq ∧ U32 s3.lreq) := by rw [a1, a2, a3]; exact hU2.out
  have hfr3 : Hid (s3.frs.length ≤ 900000) := by rw [a7]; exact hfr2.out
  have hA3 : Hid (∀ y ∈ s3.A, y.Ok) := by rw [a8]; exact hA2.out
  have hfin3 := hide a9
  clear a1 a2 a3 a4 a5 a6 a7 a8 a9 h3 hs3 u3 t3 y3 tt2 yy2 hnow2 hmem2 htn2 hU2 hfr2 hA2 hfin2 ub2
  have hS : HRq N B g3.x.T s3.me s3.seq s3.lreq s3.now w3.drew := HRq.of n3.drew
  have uc3 := ub3.trans (.below (Below.refl _ _).drew : Up B (Ft N g3 s3) (Ft N g3 s3) w3 w3.drew)
  clear n3 ub3
  go_wp2_with fail
  go_region_held3 (HRq N B g3.x.T s3.me s3.seq s3.lreq s3.now) (first | with_reducible exact hS | with_reducible assumption) ((go_at_call 156; refine (HSn.out _ (by first | rfl | exact u64add hnow3 (by omega))).mono ?_; rintro e w4 ⟨rfl, g4, n4, u4, t4, y4⟩; have hk4 : HRq N B g3.x.T s3.me s3.seq s3.lreq s3.now w4 := by have h := HRq.of n4; rw [t4.out] at h; exact h))
  rename_i hHx
  clear hHx hk4 hS HSn
  have uc4 := uc3.trans u4
  have tt4 : Hid (g4.x.T = g.x.T) := t4.out.trans tt3.out
  have yy4 : Hid (g4.h = g.h ∧ g4.u = g.u) := ⟨y4.out.1.trans yy3.out.1, y4.out.2.trans yy3.out.2⟩
  obtain ⟨s4, hs4⟩ : ∃ z, ({ s3 with mem := seenAdd s3.mem (s3.me, s3.lreq) (s3.now + 1280) s3.tn, tn := s3.tn + 1 } : St) = z := ⟨_, rfl⟩
  have h4 : Hid (s4.me = s3.me ∧ s4.seq = s3.seq ∧ s4.lreq = s3.lreq ∧ s4.frs = s3.frs ∧ s4.A = s3.A ∧ s4.send 0 (St.reqP ttl (!(lineOf s4.A d).isSome) s4.lreq d (numL s4.A d) s4.me s4.seq) [] = s9) := by
    show _ ∧ _
    rw [← hs4]
    exact ⟨rfl, rfl, rfl, rfl, rfl, hfin3.out⟩
  rw [hs4] at n4 uc4
  obtain ⟨a1, a2, a3, a7, a8, a9⟩ := h4.out
  have HN := hide (N_num n4 d hd)
  obtain ⟨nq, hnq⟩ : ∃ z, numL s4.A d = z := ⟨_, rfl⟩
  obtain ⟨nk, hnk⟩ : ∃ z, (lineOf s4.A d).isSome = z := ⟨_, rfl⟩
  rw [hnq, hnk] at HN a9
  have hnqu : U32 nq := by rw [← hnq, a8]; exact numL_u32 hA3.out d
  have HX := hide (N_sendS n4.drew 0 (St.reqP ttl (!nk) s4.lreq d nq s4.me s4.seq) (reqP_wf ht (by rw [a3]; exact hU3.out.2.2) hd hnqu (by rw [a1]; exact hU3.out.1) (by rw [a2]; exact hU3.out.2.1)) [] ⟨rfl, fun j hj => by simp at hj⟩ (by rw [a7]; have := hfr3.out; omega))
  rw [a9] at HX
  have h9 : Hid (s9.me = s4.me ∧ s9.seq = s4.seq ∧ s9.lreq = s4.lreq ∧ s9.now = s4.now) := by
    show _ ∧ _
    rw [← a9]
    exact ⟨rfl, rfl, rfl, rfl⟩
  dsimp only [Pkt.val, St.reqP] at HX
  have c4 := HRq.of n4
  obtain ⟨c2, c3, c5, c7, c0⟩ := c4
  have hS : HRq N B g4.x.T s4.me s4.seq s4.lreq s4.now w4.drew := HRq.of n4.drew
  have ud4 := uc4.trans (.below (Below.refl _ _).drew : Up B (Ft N g4 s4) (Ft N g4 s4) w4 w4.drew)
  clear a1 a2 a3 a7 a8 a9 h4 hs4 u4 t4 y4 tt3 yy3 hU3 hfr3 hA3 hfin3 uc3 uc4 hnq hnk n4 hnqu
  go_wp2_with fail
  refine Calls.mono HN.out ?_
  rintro e w5 ⟨rfl, rfl⟩
  clear HN
  go_wp2_with fail
  go_region_held3 (HRq N B g4.x.T s4.me s4.seq s4.lreq s4.now) (first | with_reducible exact hS | with_reducible assumption) ((go_at_call 80; refine HX.out.mono ?_; rintro e w6 ⟨rfl, g6, n6, u6, t6, y6⟩; have hfin : Hid (NdS N B g s s9 TL w' w6) := ⟨g6, n6, ud4.trans u6, t6.out.trans tt4.out, y6.out.1.trans yy4.out.1, y6.out.2.trans yy4.out.2⟩; have hk6 : HRq N B g4.x.T s4.me s4.seq s4.lreq s4.now w6 := by have h := HRq.of n6; rw [t6.out, h9.out.1, h9.out.2.1, h9.out.2.2.1, h9.out.2.2.2] at h; exact h))
  rename_i hHx
  clear hHx hk6 hS HX
  go_wp2
  go_returns
  exact ⟨rfl, hfin.out⟩
end Go.Proofs.YtakaadcpaeiccabGreat
