import Derived.Test.YtakaadcpaeiccabGreatC40
import Derived.Test.YtakaadcpaeiccabGreatC36
import Derived.Test.YtakaadcpaeiccabGreatC37
import Derived.Test.YtakaadcpaeiccabGreatC33
namespace Go.Proofs.YtakaadcpaeiccabGreat

/-! What holds of a node within a call: what asks and what is sent. -/
theorem St.Mid.rdy {k : Int} {j : Nat} {s : St} (h : s.Mid k j) (hj : j ≤ 7000) (hk : 0 ≤ k ∧ k ≤ 100000000000) : s.Rdy :=
  ⟨h.me, h.seq, h.now, h.mem, h.dom, by have := h.cnt; omega, by have := h.nws; omega, by have := h.frs; omega, by have := h.tn; omega, h.pcl, h.pcs, h.pcn⟩
/-- What no step turns. -/
structure Kp (s s' : St) : Prop where
  me : s'.me = s.me
  now : s'.now = s.now
  lk : s'.lk = s.lk
theorem Kp.refl (s : St) : Kp s s := ⟨rfl, rfl, rfl⟩
theorem Kp.trans {a b c : St} (p : Kp a b) (q : Kp b c) : Kp a c := ⟨q.me.trans p.me, q.now.trans p.now, q.lk.trans p.lk⟩
theorem Eff.kp {j : Nat} {s s' : St} (e : Eff j s s') : Kp s s' := ⟨e.me, e.now, e.lk⟩
theorem setQ_id {Q : List Sr} {q : Sr} {t : Int} (h : ∀ z ∈ Q, z.id ≤ t) (hq : q.id ≤ t + 1) : ∀ z ∈ St.setQ Q q, z.id ≤ t + 1 := fun z hz => by
  rcases setQ_mem hz with rfl | ⟨h1, _⟩
  · exact hq
  · have := h z h1
    omega
theorem mid_ask {k : Int} {j : Nat} {s : St} (h : s.Mid k j) (hA : ∀ y ∈ s.A, y.Ok) (hl : s.A.length ≤ 8) (q : Sr) : (s.ask q).Mid k (j + 1) ∧ Kp s (s.ask q) := by
  rw [ask_eq]
  have htl := h.tl
  cases s.holds with
  | some r =>
    refine ⟨⟨h.me, h.seq, h.now, h.mem, ⟨h.dom.mb, h.dom.on, h.dom.own⟩, by have := h.cnt; show _ ∧ s.cnt ≤ _; exact ⟨this.1, by omega⟩, by have := h.nws; show s.nws.length ≤ _; omega, h.bd, by have := h.frs; show s.frs.length ≤ _; omega, ?_, by have := h.cms; show s.cms.length ≤ _; omega, by have := h.tn; show s.tn ≤ _; omega, by show 0 ≤ s.tl + 1 ∧ s.tl + 1 ≤ _; omega, h.pcl, h.pcs, h.pcn, setQ_id h.qid (Int.le_refl _)⟩, rfl, rfl, rfl⟩
    have := h.drs
    show (s.drs ++ [r]).length ≤ _
    rw [List.length_append, List.length_singleton]
    omega
  | none =>
    have hw : ({ s with seq := gr s.seq, lreq := (s.lreq + 1) % 4294967296 } : St).write.Mid k (j + 1) :=
      mid_write (s := { s with seq := gr s.seq, lreq := (s.lreq + 1) % 4294967296 }) ⟨h.me, gr_u32 h.seq, h.now, h.mem, ⟨h.dom.mb, h.dom.on, h.dom.own⟩, h.cnt, h.nws, h.bd, h.frs, h.drs, h.cms, h.tn, h.tl, h.pcl, h.pcs, h.pcn, h.qid⟩ hA hl
    refine ⟨⟨h.me, hw.seq, h.now, fun e he => seenAdd_til h.mem he, ⟨hw.dom.mb, hw.dom.on, hw.dom.own⟩, hw.cnt, hw.nws, hw.bd, ?_, hw.drs, hw.cms, by have := h.tn; show s.tn + 1 ≤ _; omega, by show 0 ≤ s.tl + 1 ∧ s.tl + 1 ≤ _; omega, pcAdd_len h.pcl _, (pcAdd_sorted h.pcs h.pcn).1, (pcAdd_sorted h.pcs h.pcn).2, setQ_id h.qid (Int.le_refl _)⟩, rfl, rfl, rfl⟩
    have := h.frs
    show (s.frs ++ [_]).length ≤ _
    rw [List.length_append, List.length_singleton]
    omega
theorem mid_up {k : Int} {j : Nat} {s : St} (h : s.Mid k j) : s.Mid k (j + 1) :=
  ⟨h.me, h.seq, h.now, h.mem, h.dom, by have := h.cnt; omega, by have := h.nws; omega, h.bd, by have := h.frs; omega, by have := h.drs; omega, by have := h.cms; omega, by have := h.tn; omega, by have := h.tl; omega, h.pcl, h.pcs, h.pcn, h.qid⟩
/-- What counts no more than one step, though it leaves several things. -/
theorem mid_one {k : Int} {j i : Nat} {s s' : St} (h : s.Mid k j) (e : Eff i s s') (hi : i ≤ 10) (htn : s'.tn = s.tn) : s'.Mid k (j + 1) ∧ Kp s s' := by
  have h' := mid_eff h e
  refine ⟨⟨h'.me, h'.seq, h'.now, h'.mem, h'.dom, ?_, ?_, h'.bd, ?_, ?_, ?_, ?_, ?_, h'.pcl, h'.pcs, h'.pcn, h'.qid⟩, e.kp⟩
  · rw [e.cnt]; have := h.cnt; omega
  · rw [e.nws]; have := h.nws; omega
  · have := e.frs; have := h.frs; omega
  · have := e.drs; have := h.drs; omega
  · have := e.cms; have := h.cms; omega
  · rw [htn]; have := h.tn; omega
  · rw [e.tl]; have := h.tl; omega
theorem sendText_tn (s : St) (d : Int) (t : ByteArray) : (s.sendText d t).tn = s.tn := by
  unfold St.sendText
  split <;> rfl
theorem texts_tn (d : Int) (l : List ByteArray) (s : St) : (l.foldl (fun s t => s.sendText d t) s).tn = s.tn := by
  induction l generalizing s with
  | nil => rfl
  | cons a l ih => rw [List.foldl_cons, ih, sendText_tn]
theorem sendAll_tn (s : St) (d : Int) : (s.sendAll d).tn = s.tn := by
  unfold St.sendAll
  split
  · rfl
  · split
    · exact texts_tn d _ s
    · rfl
theorem mid_sendText {k : Int} {j : Nat} {s : St} (h : s.Mid k j) (d : Int) (t : ByteArray) : (s.sendText d t).Mid k (j + 1) ∧ Kp s (s.sendText d t) := mid_one h (eff_sendText s d t) (by omega) (sendText_tn s d t)
theorem mid_sendAll {k : Int} {j : Nat} {s : St} (h : s.Mid k j) (hQ : ∀ q ∈ s.Q, q.txt.length ≤ 4) (d : Int) : (s.sendAll d).Mid k (j + 1) ∧ Kp s (s.sendAll d) := mid_one h (eff_sendAll s d hQ) (by omega) (sendAll_tn s d)
theorem mid_await {k : Int} {j : Nat} {s : St} (h : s.Mid k j) (hA : ∀ y ∈ s.A, y.Ok) (hl : s.A.length ≤ 8) (d : Int) (t : ByteArray) : (s.await d t).Mid k (j + 1) ∧ Kp s (s.await d t) := by
  unfold St.await
  cases hs : St.srOf s.Q d with
  | none =>
    dsimp only
    obtain ⟨h1, h2⟩ := mid_ask (s := { s with Q := s.Q ++ [St.newQ d t] }) (k := k) (j := j) ⟨h.me, h.seq, h.now, h.mem, ⟨h.dom.mb, h.dom.on, h.dom.own⟩, h.cnt, h.nws, h.bd, h.frs, h.drs, h.cms, h.tn, h.tl, h.pcl, h.pcs, h.pcn, fun z hz => by
      rcases List.mem_append.1 hz with h1 | h1
      · exact h.qid z h1
      · rw [List.mem_singleton] at h1
        rw [h1]
        exact h.tl.1⟩ hA hl (St.newQ d t)
    exact ⟨h1, h2.me, h2.now, h2.lk⟩
  | some q =>
    dsimp only
    obtain ⟨hq, _⟩ := srOf_some hs
    have hid : ∀ (q' : Sr), q'.id = q.id → ∀ z ∈ St.setQ s.Q q', z.id ≤ s.tl := fun q' e z hz => by
      rcases setQ_mem hz with rfl | ⟨h1, _⟩
      · rw [e]; exact h.qid q hq
      · exact h.qid z h1
    have hu := mid_up h
    unfold St.hold
    split
    · refine ⟨⟨h.me, h.seq, h.now, h.mem, ⟨h.dom.mb, h.dom.on, h.dom.own⟩, hu.cnt, hu.nws, h.bd, hu.frs, ?_, hu.cms, hu.tn, hu.tl, h.pcl, h.pcs, h.pcn, hid _ rfl⟩, rfl, rfl, rfl⟩
      have := h.drs
      show (s.drs ++ [6]).length ≤ _
      rw [List.length_append, List.length_singleton]
      omega
    · exact ⟨⟨h.me, h.seq, h.now, h.mem, ⟨h.dom.mb, h.dom.on, h.dom.own⟩, hu.cnt, hu.nws, h.bd, hu.frs, hu.drs, hu.cms, hu.tn, hu.tl, h.pcl, h.pcs, h.pcn, hid _ rfl⟩, rfl, rfl, rfl⟩
theorem mid_widen {k : Int} {j : Nat} {s : St} (h : s.Mid k j) (hA : ∀ y ∈ s.A, y.Ok) (hl : s.A.length ≤ 8) (q : Sr) (hq : q.txt.length ≤ 4) : (s.widen q).Mid k (j + 1) ∧ Kp s (s.widen q) := by
  unfold St.widen
  split
  · exact mid_ask h hA hl _
  · split
    · exact mid_ask h hA hl _
    · split
      · exact mid_ask h hA hl _
      · have hu := mid_up h
        refine ⟨⟨h.me, h.seq, h.now, h.mem, ⟨h.dom.mb, h.dom.on, h.dom.own⟩, hu.cnt, hu.nws, h.bd, hu.frs, ?_, hu.cms, hu.tn, hu.tl, h.pcl, h.pcs, h.pcn, fun z hz => h.qid z (List.mem_filter.1 hz).1⟩, rfl, rfl, rfl⟩
        have := h.drs
        show (s.drs ++ List.replicate q.txt.length 5).length ≤ _
        rw [List.length_append, List.length_replicate]
        omega
theorem mid_step {k : Int} {j : Nat} {s : St} (h : s.Mid k j) (hA : ∀ y ∈ s.A, y.Ok) (hl : s.A.length ≤ 8) (hQ : ∀ q ∈ s.Q, q.txt.length ≤ 4) (q : Sr) (hq : q.txt.length ≤ 4) : (s.step q).Mid k (j + 1) ∧ Kp s (s.step q) := by
  unfold St.step
  split
  · exact mid_sendAll h hQ _
  · split
    · exact mid_widen h hA hl q hq
    · exact mid_ask h hA hl q
end Go.Proofs.YtakaadcpaeiccabGreat

namespace Go.Proofs.YtakaadcpaeiccabGreat

/-! The searches whose time has come, as plain data. -/
structure DueI (TL0 TL : List Hp.Tm) (D : List Sr) (now : Int) : Prop where
  pm : (D.map tmOf ++ TL).Perm TL0
  srt : (D.map tmOf).Pairwise Hp.Le
  due : ∀ a ∈ D, a.due ≤ now
  low : ∀ a ∈ D, ∀ y ∈ TL, Hp.Le (tmOf a) y
theorem DueI.nil (TL : List Hp.Tm) (now : Int) : DueI TL TL [] now := ⟨.refl _, List.Pairwise.nil, fun _ h => (by cases h), fun _ h => (by cases h)⟩
theorem DueI.snoc {TL0 TL TL' : List Hp.Tm} {D : List Sr} {now : Int} (h : DueI TL0 TL D now) {q : Sr} (hx : q.due ≤ now) (hm : ∀ y ∈ TL, Hp.Le (tmOf q) y) (hp : (tmOf q :: TL').Perm TL) : DueI TL0 TL' (D ++ [q]) now := by
  refine ⟨?_, ?_, fun a ha => ?_, fun a ha y hy => ?_⟩
  · rw [List.map_append, List.map_cons, List.map_nil, List.append_assoc, List.singleton_append]
    exact (hp.append_left _).trans h.pm
  · rw [List.map_append, List.map_cons, List.map_nil]
    refine List.pairwise_append.2 ⟨h.srt, List.pairwise_singleton _ _, fun a ha b hb => ?_⟩
    rw [List.mem_singleton] at hb
    subst hb
    obtain ⟨z, hz, rfl⟩ := List.mem_map.1 ha
    exact h.low z hz _ (hp.mem_iff.1 List.mem_cons_self)
  · rcases List.mem_append.1 ha with h1 | h1
    · exact h.due a h1
    · rw [List.mem_singleton] at h1
      rw [h1]
      exact hx
  · have hy' : y ∈ TL := hp.mem_iff.1 (List.mem_cons_of_mem _ hy)
    rcases List.mem_append.1 ha with h1 | h1
    · exact h.low a h1 y hy'
    · rw [List.mem_singleton] at h1
      rw [h1]
      exact hm y hy'
theorem sr_id {Q : List Sr} (hn : Q.Pairwise fun a b => a.id ≠ b.id) {z q : Sr} (hz : z ∈ Q) (hq : q ∈ Q) (e : z.id = q.id) : z = q := by
  induction Q with
  | nil => cases hz
  | cons a Q ih =>
    rw [List.pairwise_cons] at hn
    rcases List.mem_cons.1 hz with k1 | k1
    · rcases List.mem_cons.1 hq with k2 | k2
      · rw [k1, k2]
      · exact absurd (k1 ▸ e) (hn.1 q k2)
    · rcases List.mem_cons.1 hq with k2 | k2
      · exact absurd (k2 ▸ e).symm (hn.1 z k1)
      · exact ih hn.2 k1 k2
theorem q_ids {s : St} {TL : List Hp.Tm} (hT : TmOk s TL) (h : TL.Pairwise fun a b => a.2.1 ≠ b.2.1) : s.Q.Pairwise fun a b => a.id ≠ b.id := by
  have h1 := hT.pairwise h fun h => Ne.symm h
  rw [List.pairwise_map] at h1
  exact h1
theorem nodup_dest {Q : List Sr} (hn : Q.Pairwise fun a b => a.dest ≠ b.dest) : Q.Nodup := hn.imp fun h e => h (by rw [e])
theorem DueI.nod {TL0 TL : List Hp.Tm} {D : List Sr} {now : Int} (h : DueI TL0 TL D now) (hi : TL0.Pairwise fun a b => a.2.1 ≠ b.2.1) : D.Pairwise fun a b => a.id ≠ b.id := by
  have h1 := h.pm.symm.pairwise hi fun h => Ne.symm h
  have h2 := (List.pairwise_append.1 h1).1
  rw [List.pairwise_map] at h2
  exact h2
theorem DueI.eq {s : St} {TL0 TL : List Hp.Tm} {D : List Sr} {now : Int} (h : DueI TL0 TL D now) (hT : TmOk s TL0) (hD : ∀ a ∈ D, a ∈ s.Q) (hn : s.Q.Pairwise fun a b => a.dest ≠ b.dest) (hi : TL0.Pairwise fun a b => a.2.1 ≠ b.2.1) (hend : ∀ y ∈ TL, now < y.1) : D = St.dueQ s.Q now := by
  have hq := q_ids hT hi
  have hdn : D.Nodup := (h.nod hi).imp fun h e => h (by rw [e])
  have hpm : D.Perm (s.Q.filter fun q => decide (q.due ≤ now)) := by
    refine (List.perm_ext_iff_of_nodup hdn ((nodup_dest hn).filter _)).2 fun a => ⟨fun ha => ?_, fun ha => ?_⟩
    · exact List.mem_filter.2 ⟨hD a ha, by simpa using h.due a ha⟩
    · obtain ⟨h1, h2⟩ := List.mem_filter.1 ha
      have h2' : a.due ≤ now := by simpa using h2
      have h3 : tmOf a ∈ D.map tmOf ++ TL := h.pm.mem_iff.2 (hT.mem_iff.2 (List.mem_map.2 ⟨a, h1, rfl⟩))
      rcases List.mem_append.1 h3 with h4 | h4
      · obtain ⟨b, hb, e⟩ := List.mem_map.1 h4
        have : b = a := sr_self hn (hD b hb) h1 (congrArg (·.2.2) e)
        rw [← this]
        exact hb
      · have := hend _ h4
        exact absurd h2' (by show ¬ (tmOf a).1 ≤ now; omega)
  unfold St.dueQ
  refine List.Perm.eq_of_pairwise (le := fun a b => St.ordQ a b = true) (fun a b ha hb h1 h2 => ?_) ?_ (List.pairwise_mergeSort ?_ ?_ _) (hpm.trans (List.mergeSort_perm _ _).symm)
  · refine sr_id hq (hD a ha) ?_ ?_
    · exact (List.mem_filter.1 ((List.mergeSort_perm _ _).mem_iff.1 hb)).1
    · simp only [St.ordQ, Bool.or_eq_true, Bool.and_eq_true, decide_eq_true_eq] at h1 h2
      omega
  · have := h.srt
    rw [List.pairwise_map] at this
    refine this.imp fun {a b} hab => ?_
    rw [Hp.Le.iff] at hab
    simp only [St.ordQ, Bool.or_eq_true, Bool.and_eq_true, decide_eq_true_eq]
    exact hab
  · intro a b c h1 h2
    simp only [St.ordQ, Bool.or_eq_true, Bool.and_eq_true, decide_eq_true_eq] at h1 h2 ⊢
    omega
  · intro a b
    simp only [St.ordQ, Bool.or_eq_true, Bool.and_eq_true, decide_eq_true_eq]
    omega

/-- What remains to be done. -/
def offL (R : List Sr) (z : Sr) : Bool := !(R.any fun a => decide (a.dest = z.dest))
structure RemI (R : List Sr) (s : St) (TL : List Hp.Tm) : Prop where
  mem : ∀ a ∈ R, a ∈ s.Q
  nod : R.Pairwise fun a b => a.dest ≠ b.dest
  ids : s.Q.Pairwise fun a b => a.id ≠ b.id
  le : ∀ a ∈ s.Q, a.id ≤ s.tl
  pos : ∀ a ∈ s.Q, 0 < a.id
  pm : TL.Perm ((s.Q.filter (offL R)).map tmOf)
theorem offL_nil (z : Sr) : offL [] z = true := rfl
theorem offL_cons (q : Sr) (R : List Sr) (z : Sr) : offL (q :: R) z = (offL R z && !decide (z.dest = q.dest)) := by
  unfold offL
  rw [List.any_cons, Bool.not_or, Bool.and_comm]
  congr 2
  exact decide_eq_decide.2 ⟨Eq.symm, Eq.symm⟩
theorem offL_iff {R : List Sr} {z : Sr} : offL R z = true ↔ ∀ a ∈ R, a.dest ≠ z.dest := by
  unfold offL
  simp
theorem RemI.done {s : St} {TL : List Hp.Tm} (h : RemI [] s TL) : TmOk s TL := by
  have := h.pm
  rw [List.filter_eq_self.2 (fun z _ => offL_nil z)] at this
  exact this
theorem RemI.first {s : St} {TL0 TL : List Hp.Tm} {D : List Sr} {now : Int} (h : DueI TL0 TL D now) (hT : TmOk s TL0) (hD : ∀ a ∈ D, a ∈ s.Q) (hn : s.Q.Pairwise fun a b => a.dest ≠ b.dest) (hi : TL0.Pairwise fun a b => a.2.1 ≠ b.2.1) (hl : ∀ a ∈ s.Q, a.id ≤ s.tl) (hp0 : ∀ a ∈ s.Q, 0 < a.id) : RemI D s TL := by
  have hdn : D.Nodup := (h.nod hi).imp fun h e => h (by rw [e])
  have hdd : D.Pairwise fun a b => a.dest ≠ b.dest := (h.nod hi).imp_of_mem fun {a b} ha hb hab e => hab (by rw [sr_self hn (hD a ha) (hD b hb) e])
  refine ⟨hD, hdd, q_ids hT hi, hl, hp0, ?_⟩
  have hp : (D ++ s.Q.filter (offL D)).Perm s.Q := by
    refine (List.perm_ext_iff_of_nodup (List.nodup_append.2 ⟨hdn, (nodup_dest hn).filter _, fun a ha b hb e => ?_⟩) (nodup_dest hn)).2 fun a => ⟨fun ha => ?_, fun ha => ?_⟩
    · subst e
      have := offL_iff.1 (List.mem_filter.1 hb).2 a ha
      exact this rfl
    · rcases List.mem_append.1 ha with h1 | h1
      · exact hD a h1
      · exact (List.mem_filter.1 h1).1
    · by_cases hx : offL D a = true
      · exact List.mem_append_right _ (List.mem_filter.2 ⟨ha, hx⟩)
      · refine List.mem_append_left _ ?_
        have : ∃ b ∈ D, b.dest = a.dest := by
          refine Classical.byContradiction fun hc => hx (offL_iff.2 fun b hb e => hc ⟨b, hb, e⟩)
        obtain ⟨b, hb, e⟩ := this
        rw [← sr_self hn (hD b hb) ha e]
        exact hb
  have h1 := (h.pm.trans hT).trans (hp.map tmOf).symm
  rw [List.map_append] at h1
  exact (List.perm_append_left_iff _).1 h1
theorem setQ_filter {Q : List Sr} (hn : Q.Pairwise fun a b => a.dest ≠ b.dest) {q q2 : Sr} (hq : q ∈ Q) (hd : q2.dest = q.dest) (P : Sr → Bool) (hP : P q2 = true) : ((St.setQ Q q2).filter P).Perm ((Q.filter fun z => P z && !decide (z.dest = q.dest)) ++ [q2]) := by
  induction Q with
  | nil => cases hq
  | cons a Q ih =>
    rw [List.pairwise_cons] at hn
    rcases List.mem_cons.1 hq with rfl | h
    · have h1 : St.setQ Q q2 = Q := (List.map_congr_left fun z hz => if_neg (by rw [hd]; exact (hn.1 z hz).symm)).trans (List.map_id _)
      have h2 : St.setQ (q :: Q) q2 = q2 :: Q := by
        show (if q.dest = q2.dest then q2 else q) :: St.setQ Q q2 = _
        rw [if_pos hd.symm, h1]
      have h3 : (q :: Q).filter (fun z => P z && !decide (z.dest = q.dest)) = Q.filter P := by
        rw [List.filter_cons_of_neg (by simp)]
        refine List.filter_congr fun z hz => ?_
        have : z.dest ≠ q.dest := (hn.1 z hz).symm
        simp [this]
      rw [h2, h3, List.filter_cons_of_pos hP]
      exact (List.perm_append_singleton _ _).symm
    · have h2 : a.dest ≠ q.dest := hn.1 q h
      have h1 : St.setQ (a :: Q) q2 = a :: St.setQ Q q2 := by
        show (if a.dest = q2.dest then q2 else a) :: St.setQ Q q2 = _
        rw [if_neg (by rw [hd]; exact h2)]
      rw [h1]
      by_cases hp : P a = true
      · rw [List.filter_cons_of_pos hp, List.filter_cons_of_pos (by simp [hp, h2])]
        exact (ih hn.2 h).cons a
      · rw [List.filter_cons_of_neg hp, List.filter_cons_of_neg (by simp [hp])]
        exact ih hn.2 h
theorem RemI.step {q : Sr} {R : List Sr} {s s2 : St} {TL TL' : List Hp.Tm} (h : RemI (q :: R) s TL) (hn : s.Q.Pairwise fun a b => a.dest ≠ b.dest) (ht : TmR q s TL s2 TL') : RemI R s2 TL' := by
  have hq := h.mem q List.mem_cons_self
  have hnr := List.pairwise_cons.1 h.nod
  have hpm : TL.Perm ((s.Q.filter fun z => offL R z && !decide (z.dest = q.dest)).map tmOf) := by
    have := h.pm
    rw [show offL (q :: R) = fun z => offL R z && !decide (z.dest = q.dest) from funext fun z => offL_cons q R z] at this
    exact this
  rcases ht with ⟨q2, h1, h2, h3, h4, h5⟩ | ⟨h3, h4, h5⟩
  · refine ⟨fun a ha => ?_, hnr.2, ?_, ?_, fun z hz => ?_, ?_⟩
    · rw [h4]
      exact (mem_setQ (h.mem a (List.mem_cons_of_mem _ ha))).2 (by rw [h1]; exact (hnr.1 a ha).symm)
    · rw [h4]
      unfold St.setQ
      rw [List.pairwise_map]
      refine (List.Pairwise.and hn h.ids).imp_of_mem fun {a b} ha hb hab => ?_
      have ha' := h.le a ha
      have hb' := h.le b hb
      by_cases e1 : a.dest = q2.dest
      · rw [if_pos e1, if_neg (fun e2 => hab.1 (e1.trans e2.symm))]
        omega
      · rw [if_neg e1]
        split
        · omega
        · exact hab.2
    · rw [h4, h3]
      exact setQ_id h.le (by omega)
    · rw [h4] at hz
      rcases setQ_mem hz with rfl | ⟨k1, _⟩
      · have := h.pos q hq
        have := h.le q hq
        omega
      · exact h.pos z k1
    · rw [h4, h5]
      have hP : offL R q2 = true := offL_iff.2 fun a ha e => hnr.1 a ha (by rw [e, h1])
      refine List.Perm.trans ?_ ((setQ_filter hn hq h1 (offL R) hP).map tmOf).symm
      rw [List.map_append]
      exact hpm.append_right _
  · have hTT : TL' = TL := by
      rcases h5 with ⟨x, hx, hp⟩ | ⟨_, e⟩
      · have hxT : x ∈ TL := hp.mem_iff.1 List.mem_cons_self
        obtain ⟨z, hz, rfl⟩ := List.mem_map.1 (hpm.mem_iff.1 hxT)
        obtain ⟨z1, z2⟩ := List.mem_filter.1 hz
        have : z = q := sr_id h.ids z1 hq hx
        rw [this] at z2
        simp at z2
      · exact e
    refine ⟨fun a ha => ?_, hnr.2, ?_, ?_, fun z hz => ?_, ?_⟩
    · rw [h4]
      exact List.mem_filter.2 ⟨h.mem a (List.mem_cons_of_mem _ ha), by simpa using (hnr.1 a ha).symm⟩
    · rw [h4]
      exact h.ids.filter _
    · rw [h4, h3]
      exact fun z hz => h.le z (List.mem_filter.1 hz).1
    · rw [h4] at hz
      exact h.pos z (List.mem_filter.1 hz).1
    · rw [h4, hTT, List.filter_filter]
      exact hpm
end Go.Proofs.YtakaadcpaeiccabGreat

namespace Go.Proofs.YtakaadcpaeiccabGreat
open Go.RowKit Go.Maps

/-! The searches whose time has come (dueSearches). -/
theorem info_srp : (Tryz.prog.info? 172).map (fun i => (i.zero, i.size, i.bytes)) = some (some (.pointer none), 1, 8) := by kernel_rfl
theorem cells_srp (W : World) (B : Nat) : ∀ (j : Nat) (u : Value), ([.pointer (some ⟨B, 0, none⟩)] : List Value)[j]? = some u → (W.alloc (.cells #[.pointer (some ⟨B, 0, none⟩)] 172)).cell? ((⟨W.heap.size, 0, none⟩ : Addr).add j) = some u := by
  intro j u hj
  have h := heap_alloc_new W (.cells #[.pointer (some ⟨B, 0, none⟩)] 172)
  rw [Addr.add_lit, Nat.zero_add]
  match j, hj with
  | 0, hj => cases hj; exact cell_of_row _ _ 0 _ _ _ h
def slLen (v : Value) : Nat := match v with
  | .slice _ n _ => n
  | _ => 0
/-- What is left behind the search for those whose time has come. -/
def DueP (N B : Nat) (g : NdG) (s : St) (_TL : List Hp.Tm) (D : List Sr) (w : World) (v : Value) (w' : World) : Prop := ∃ g' TL', Nd N B g' s TL' w' ∧ Up B (Ft N g s) (Ft N g' s) w w' ∧ Hid (g'.x.T = g.x.T) ∧ Hid (g'.h = g.h ∧ g'.u = g.u) ∧ RemI D s TL' ∧ w'.ownsRow w.heap.size 172 1 v D.length (D.map fun q => ptrOf (g.h q.dest))

set_option maxRecDepth 100000 in
set_option maxHeartbeats 8000000 in
theorem N_due {N B : Nat} {g : NdG} {s : St} {TL : List Hp.Tm} {w : World} (n : Nd N B g s TL w) (hT : TmOk s TL) (hl : TL.length ≤ 5000) (hle : ∀ a ∈ s.Q, a.id ≤ s.tl) (hpos : ∀ a ∈ s.Q, 0 < a.id) (now : Int) (h0 : 0 ≤ now ∧ now ≤ 4611686018427387904) :
    Calls Tryz.prog 77 #[.pointer (some ⟨N, 0, none⟩), .int .u64 now] w fun e w' => ∃ v, e = .returned v ∧ DueP N B g s TL (St.dueQ s.Q now) w v w' := by
  obtain ⟨i0, hi, hz0, hz1, hz2⟩ := info_parts info_srp
  have hids := hide n.nn.ids
  have hnod := hide n.nn.rs.sr.nod
  have hok := hide n.nn.rs.sr.ok
  have hln := hide (fun q (hq : q ∈ s.Q) => n.nn.rs.sr.ln q hq)
  have hT' := hide hT
  have hle' := hide hle
  have hpos' := hide hpos
  clear hT hle hpos
  go_enter Tryz.func77, Tryz.ntmps77
  go_wp2_with fail
  go_loopw [5] (fun lv wr => ∃ (D : List Sr) (g1 : NdG) (TL1 : List Hp.Tm), Nd N B g1 s TL1 wr ∧ Up B (Ft N g s) (Ft N g1 s) w wr ∧ Hid (g1.x = g.x) ∧ Hid (g1.h = g.h ∧ g1.u = g.u) ∧ Hid (DueI TL TL1 D now) ∧ Hid (∀ a ∈ D, a ∈ s.Q) ∧ wr.ownsRow w.heap.size 172 1 lv D.length (D.map fun q => ptrOf (g.h q.dest))) (fun lv _ => 5000 - slLen lv)
  case atStart => exact ⟨[], g, TL, n, Up.refl _ _ _, rfl, ⟨rfl, rfl⟩, DueI.nil TL now, fun _ h => (by cases h), ⟨rfl, .inl ⟨rfl, rfl⟩⟩⟩
  case round =>
    clear n
    obtain ⟨D, g1, TL1, n1, u1, x1, y1, d1, m1, r1⟩ := hrel
    have hlen : D.length + TL1.length = TL.length := by
      have := d1.out.pm.length_eq
      rw [List.length_append, List.length_map] at this
      exact this
    have HN := hide (N_next n1 now h0 (by omega))
    obtain ⟨_, _, c13, c14, _⟩ := n1.nn.cr.nd.more
    obtain ⟨ao, c, rfl, _⟩ := row_form r1
    go_wp2_with fail
    refine Calls.mono HN.out ?_
    rintro e w2 ⟨h', v', TL2, d, b, rfl, n2, u2, hd⟩
    have r2 : w2.ownsRow w.heap.size 172 1 (.slice ao D.length c) D.length (D.map fun q => ptrOf (g.h q.dest)) := row_at r1 fun k hk => by
      obtain ⟨cc, hc⟩ := row_obj r1 hk
      exact (u2.block k _ hc (n1.notL hc).1 (.inl ⟨fun c e => (by cases e), fun c e => (by cases e), fun c e => (by cases e), fun c e => (by cases e), fun c e => (by cases e)⟩)).trans hc.symm
    have u12 := u1.trans u2
    clear HN c13 c14 r1 u1 u2 n1
    have x2 : Hid (({ g1 with hp := h', tv := v' } : NdG).x = g.x) := x1
    have y2 : Hid (({ g1 with hp := h', tv := v' } : NdG).h = g.h ∧ ({ g1 with hp := h', tv := v' } : NdG).u = g.u) := y1
    generalize ({ g1 with hp := h', tv := v' } : NdG) = g2 at n2 u12 x2 y2
    rcases hd with ⟨rfl, x, hxd, hxn, hxm, hxp⟩ | ⟨rfl, hno, rfl⟩
    · obtain ⟨q, hq, rfl⟩ := List.mem_map.1 (hT'.out.mem_iff.1 (d1.out.pm.mem_iff.1 (List.mem_append_right _ (hxp.mem_iff.1 List.mem_cons_self))))
      have hxd' : q.dest = d := hxd
      subst hxd'
      have hqd := (hok.out q hq).dest
      obtain ⟨Bq, hBq, _⟩ := hln.out q hq
      have hlk := n2.nn.rs.sr.map.looks hqd
      rw [y2.out.1, hBq] at hlk
      simp only [ptrOf] at hlk
      have hd3 : Hid (DueI TL TL2 (D ++ [q]) now) := d1.out.snoc hxn hxm hxp
      have hm3 : Hid (∀ a ∈ D ++ [q], a ∈ s.Q) := fun a ha => (List.mem_append.1 ha).elim (m1.out a) fun h => by rw [List.mem_singleton] at h; rw [h]; exact hq
      have hD5 : D.length + 1 ≤ 5000 := by
        have := hxp.length_eq
        rw [List.length_cons] at this
        omega
      clear hxd hxn hxm hxp hlen d1 m1
      obtain ⟨_, _, c13, c14, _⟩ := n2.nn.cr.nd.more
      have hk1 : Hid (D.length + 1 ≤ maxLen) := by show _ ≤ _; unfold maxLen; omega
      have hk2 : Hid ((D.length + 1) * 8 ≤ 140737488355328) := by show _ ≤ _; omega
      have hmod : q.dest % 4294967296 = q.dest := by unfold U32 at hqd; omega
      have hbA : Below w2.heap.size w2 (w2.alloc (.cells #[.pointer (some ⟨Bq, 0, none⟩)] 172)) := (Below.refl _ _).alloc (Nat.le_refl _) _
      have h12 := u12.size
      go_wp2_with (at_builtin; refine wpList_append_own_at _ rfl _ _ 170 rfl w.heap.size 172 i0 (.pointer none) 1 8 Tryz.underlying170 hi hz0 hz1 hz2 rfl (by decide) (.slice ao D.length c) D.length (D.map fun q => ptrOf (g.h q.dest)) rfl (r2.alloc _) ⟨w2.heap.size, 0, none⟩ 1 1 [.pointer (some ⟨Bq, 0, none⟩)] rfl rfl (cells_srp w2 Bq) (by simp [Value.oneCell']) hk1.out hk2.out ?c3 ?_)
      case c3 => simp; omega
      intro v7 w7 ho7 hg7 _ _
      have nA := n2.later hbA
      have F7 : Fx (fun k => (Value.slice ao D.length c).ownBlock = some k) (w2.alloc (.cells #[.pointer (some ⟨Bq, 0, none⟩)] 172)) w7 := Fx.grown hg7 fun k e => e
      have n7 := nA.off F7 (fun k hk => by
        obtain ⟨cc, hc⟩ := row_obj (r2.alloc _) hk
        exact nA.notL hc)
      have hs7 := hbA.size
      have hs8 := F7.size
      have u7 : Up B (Ft N g s) (Ft N g2 s) w w7 := ⟨fun k hk => (u12.sub k hk).imp_right fun h => ⟨h.1, by omega⟩, F7.os.trans (hbA.os.trans u12.os), F7.tape.trans (hbA.tape.trans u12.tape), F7.output.trans (hbA.output.trans u12.output), by omega, fun k o ho hn hA => by
        have hkw := some_lt ho
        have h2 := u12.block k o ho hn hA
        have hk2 := some_lt h2
        have h3 : (w2.alloc (.cells #[.pointer (some ⟨Bq, 0, none⟩)] 172)).heap[k]? = some o := (hbA.block k hk2).trans h2
        exact (F7.block k (by omega) (fun e => by have := (r2.lt k e).1; omega)).trans h3⟩
      have r7 : w7.ownsRow w.heap.size 172 1 v7 (D ++ [q]).length ((D ++ [q]).map fun q => ptrOf (g.h q.dest)) := by
        rw [List.length_append, List.length_singleton, List.map_append, List.map_cons, List.map_nil, hBq]
        exact ho7
      obtain ⟨ao7, c7, rfl, _⟩ := row_form ho7
      clear nA F7 hs7 hs8 hbA h12 ho7 hg7 n2 u12 r2 c13 c14 hlk
      go_wp2
      go_roundw
      case rel => exact ⟨D ++ [q], g2, TL2, n7, u7, x2, y2, hd3, hm3, r7⟩
      case measure => simp [slLen]; omega
    · have hDe := hide (d1.out.eq hT'.out m1.out hnod.out hids.out hno)
      have hR := hide (RemI.first d1.out hT'.out m1.out hnod.out hids.out hle'.out hpos'.out)
      have hfin : Hid (DueP N B g s TL (St.dueQ s.Q now) w (.slice ao D.length c) w2) := by
        rw [← hDe.out]
        exact ⟨g2, TL2, n2, u12, by rw [x2.out]; exact rfl, y2.out, hR.out, r2⟩
      clear hR hDe d1 m1 hno n2 u12 r2 hlen
      go_wp2
      go_ret
      exact ⟨_, rfl, hfin.out⟩
end Go.Proofs.YtakaadcpaeiccabGreat

namespace Go.Proofs.YtakaadcpaeiccabGreat
open Go.RowKit Go.Maps

/-! All searches go on whose time has come (goOn). -/
theorem srOf_self {Q : List Sr} (hn : Q.Pairwise fun a b => a.dest ≠ b.dest) {q : Sr} (hq : q ∈ Q) : St.srOf Q q.dest = some q := by
  cases h : St.srOf Q q.dest with
  | none =>
    have := List.find?_eq_none.1 h q hq
    simp at this
  | some z =>
    obtain ⟨h1, h2⟩ := srOf_some h
    rw [sr_self hn h1 hq h2]
/-- Where the searches stand behind i of them. -/
def GoI (N B : Nat) (g g1 : NdG) (s : St) (w w1 : World) (D : List Sr) (k : Int) (j i : Nat) (wr : World) : Prop :=
  ∃ si gi TLi, Hid (si = (D.take i).foldl St.step s) ∧ Nd N B gi si TLi wr ∧ Up B (Ft N g s) (Ft N gi si) w wr ∧ Up B (Ft N g1 s) (Ft N gi si) w1 wr ∧ Hid (gi.x.T = g.x.T) ∧ Hid (∀ a ∈ D.drop i, gi.h a.dest = g.h a.dest) ∧ Hid (RemI (D.drop i) si TLi) ∧ Hid (si.Mid k (j + i)) ∧ Hid (Kp s si)
theorem sendAll_tm {s : St} {q : Sr} (hq : q ∈ s.Q) (hn : s.Q.Pairwise fun a b => a.dest ≠ b.dest) (hf : (findL s.A q.dest s.now).2 = true) {TL TL' : List Hp.Tm} (ht : Took q.id TL TL') (h4 : ∀ q ∈ s.Q, q.txt.length ≤ 4) : TmR q s TL (s.sendAll q.dest) TL' := by
  refine .inr ⟨(eff_sendAll s q.dest h4).tl, ?_, ht⟩
  unfold St.sendAll
  rw [srOf_self hn hq]
  dsimp only
  rw [if_pos hf]
theorem sendAll_no {s : St} {d : Int} (hf : (findL s.A d s.now).2 = false) : s.sendAll d = s := by
  unfold St.sendAll
  split
  · rfl
  · rw [hf]; rfl
/-- One search has gone on. -/
theorem GoI.next {N B : Nat} {g g1 gi g5 : NdG} {s si s2 : St} {w w1 wr w5 : World} {D : List Sr} {k : Int} {j i : Nat} {q : Sr} {TLi TL2 : List Hp.Tm} (hx : D[i]? = some q) (hst : si = (D.take i).foldl St.step s) (ni : Nd N B gi si TLi wr) (u1 : Up B (Ft N g s) (Ft N gi si) w wr) (u2 : Up B (Ft N g1 s) (Ft N gi si) w1 wr) (t1 : gi.x.T = g.x.T) (hh : ∀ a ∈ D.drop i, gi.h a.dest = g.h a.dest) (hr : RemI (D.drop i) si TLi) (hm : si.Mid k (j + i)) (hk : Kp s si)
    (e2 : si.step q = s2) (n5 : Nd N B g5 s2 TL2 w5) (u5 : Up B (Ft N gi si) (Ft N g5 s2) wr w5) (t5 : g5.x.T = gi.x.T) (h5 : ∀ z, z ≠ q.dest → g5.h z = gi.h z) (ht : TmR q si TLi s2 TL2) : GoI N B g g1 s w w1 D k j (i + 1) w5 := by
  have hd : D.drop i = q :: D.drop (i + 1) := by
    obtain ⟨hi, e⟩ := List.getElem?_eq_some_iff.1 hx
    rw [List.drop_eq_getElem_cons hi, e]
  rw [hd] at hr hh
  have hn := ni.nn.rs.sr.nod
  have h4 : ∀ q ∈ si.Q, q.txt.length ≤ 4 := fun q hq => (ni.nn.rs.sr.ok q hq).txt
  obtain ⟨m2, k2⟩ := mid_step hm ni.nn.cr.tb.ok ni.nn.cr.tb.len h4 q (h4 q (hr.mem q List.mem_cons_self))
  rw [e2] at m2 k2
  refine ⟨s2, g5, TL2, ?_, n5, u1.trans u5, u2.trans u5, t5.trans t1, fun a ha => ?_, hr.step hn ht, m2, hk.trans k2⟩
  · show s2 = _
    rw [List.take_add_one, hx, List.foldl_append, ← hst, ← e2]
    rfl
  · have h1 := (List.pairwise_cons.1 hr.nod).1 a ha
    rw [h5 a.dest (Ne.symm h1)]
    exact hh a (List.mem_cons_of_mem _ ha)

set_option maxRecDepth 100000 in
set_option maxHeartbeats 8000000 in
theorem N_goOn {N B : Nat} {g : NdG} {s : St} {TL : List Hp.Tm} {w : World} (n : Nd N B g s TL w) {k : Int} {j : Nat} (hM : s.Mid k j) (hj : j ≤ 1000) (hk : 0 ≤ k ∧ k ≤ 100000000000) (hT : TmOk s TL) (hpos : ∀ a ∈ s.Q, 0 < a.id) :
    Calls Tryz.prog 52 #[.pointer (some ⟨N, 0, none⟩), .pointer (some ⟨B, 0, none⟩)] w fun e w' => e = .returned (.tuple #[]) ∧ ∃ g1 w1, GoI N B g g1 s w w1 (St.dueQ s.Q s.now) k j (St.dueQ s.Q s.now).length w' := by
  have hlt := n.nn.qlen hT
  obtain ⟨c2, c3, c4, c7, c0⟩ := n.cell
  have HD := hide (N_due n hT (by omega) hM.qid hpos s.now hM.now)
  have hDl : (St.dueQ s.Q s.now).length ≤ 5000 := by
    unfold St.dueQ
    rw [(List.mergeSort_perm _ _).length_eq]
    exact Nat.le_trans (List.length_filter_le _ _) n.nn.rs.sr.len
  generalize hDe : St.dueQ s.Q s.now = D at HD hDl ⊢
  clear hDe
  go_enter Tryz.func52, Tryz.ntmps52
  go_wp2_with fail
  refine Calls.mono HD.out ?_
  rintro e w1 ⟨v, rfl, g1, TL1, n1, u1, t1, y1, r1, ho⟩
  obtain ⟨ao, c, rfl, _⟩ := row_form ho
  have hkeep : Hid (∀ (gi : NdG) (si : St) (wr : World), Up B (Ft N g1 s) (Ft N gi si) w1 wr → wr.ownsRow w.heap.size 172 1 (.slice ao D.length c) D.length (D.map fun q => ptrOf (g.h q.dest))) := fun gi si wr u => row_at ho fun k hk => by
    obtain ⟨cc, hc⟩ := row_obj ho hk
    exact (u.block k _ hc (n1.notL hc).1 (.inl ⟨fun c e => (by cases e), fun c e => (by cases e), fun c e => (by cases e), fun c e => (by cases e), fun c e => (by cases e)⟩)).trans hc.symm
  have h0 : Hid (GoI N B g g1 s w w1 D k j 0 w1) := ⟨s, g1, TL1, rfl, n1, u1, Up.refl _ _ _, t1.out, fun a _ => by rw [y1.out.1], by rw [List.drop_zero]; exact r1, hM, Kp.refl s⟩
  clear HD n n1 u1 t1 y1 r1 ho c2 c3 c4 c7 c0 hM hT hpos
  go_wp2_with fail
  go_loopw [13] (fun vi wr => ∃ i : Nat, i ≤ D.length ∧ vi = .int .i64 i ∧ GoI N B g g1 s w w1 D k j i wr) (fun vi _ => D.length - (intOf vi).toNat)
  case atStart => exact ⟨0, Nat.zero_le _, rfl, h0.out⟩
  case round =>
    clear h0
    obtain ⟨i, hi, rfl, hg⟩ := hrel
    by_cases hlt : i < D.length
    · obtain ⟨si, gi, TLi, hst, ni, u1, u2, t1, hh, hr, hm, hkp⟩ := hg
      have hki : (i : Int) < (D.length : Int) := by omega
      obtain ⟨q, hx⟩ : ∃ q, D[i]? = some q := ⟨_, List.getElem?_eq_getElem hlt⟩
      have hd : q ∈ D.drop i := by
        obtain ⟨hi, e⟩ := List.getElem?_eq_some_iff.1 hx
        rw [List.drop_eq_getElem_cons hi, e]
        exact List.mem_cons_self
      have hqm := hr.out.mem q hd
      have hok := ni.nn.rs.sr.ok q hqm
      obtain ⟨Bq, hB, hL⟩ := ni.nn.rs.sr.ln q hqm
      have hgB : g.h q.dest = some Bq := (hh.out q hd).symm.trans hB
      have hrow := hkeep.out gi si wr u2
      obtain ⟨gb, cb, hv, _⟩ := row_shape' hrow (by omega)
      cases hv
      have d0 := (hrow.cellAt i (by simpa using hlt)).trans (by rw [List.getElem?_map, hx, Option.map_some, hgB]; rfl : (D.map fun q => ptrOf (g.h q.dest))[i]? = some (.pointer (some ⟨Bq, 0, none⟩)))
      have b0 := hL.cell.1
      have hids := hr.out.pos q hqm
      have HS := hide (N_sendWaiting ni q.dest hok.dest hm.out.me hm.out.now (by have := hm.out.frs; omega) (by have := hr.out.pm.length_eq; rw [List.length_map] at this; have := List.length_filter_le (offL (D.drop i)) si.Q; have := ni.nn.rs.sr.len; omega))
      rw [srOf_self ni.nn.rs.sr.nod hqm] at HS
      have hwk : wrap64 ((i : Int) + 1) = (i : Int) + 1 := by unfold wrap64; omega
      have hTl : TLi.length ≤ 5000 := by
        have := hr.out.pm.length_eq
        rw [List.length_map] at this
        have := List.length_filter_le (offL (D.drop i)) si.Q
        have := ni.nn.rs.sr.len
        omega
      have hTi : ∀ x ∈ TLi, x.2.1 ≤ si.tl := fun x hx => by
        obtain ⟨z, hz, rfl⟩ := List.mem_map.1 (hr.out.pm.mem_iff.1 hx)
        exact hr.out.le z (List.mem_filter.1 hz).1
      have hnx := hide (fun (s2 : St) (g5 : NdG) (TL2 : List Hp.Tm) (w5 : World) (e2 : si.step q = s2) (n5 : Nd N B g5 s2 TL2 w5) (u5 : Up B (Ft N gi si) (Ft N g5 s2) wr w5) (t5 : g5.x.T = gi.x.T) (h5 : ∀ z, z ≠ q.dest → g5.h z = gi.h z) (ht : TmR q si TLi s2 TL2) => GoI.next (g := g) (g1 := g1) (w := w) (w1 := w1) hx hst.out ni u1 u2 t1.out hh.out hr.out hm.out hkp.out e2 n5 u5 t5 h5 ht)
      have hnod := ni.nn.rs.sr.nod
      have h4 : ∀ q ∈ si.Q, q.txt.length ≤ 4 := fun q hq => (ni.nn.rs.sr.ok q hq).txt
      have hR := hm.out.rdy (by omega) hk
      have hdl : si.drs.length ≤ 800000 := by have := hm.out.drs; omega
      have htl := hm.out.tl
      clear hst u1 u2 t1 hh hr hkp hd hgB hrow
      obtain ⟨fd, hfd⟩ : ∃ b, (findL si.A q.dest si.now).2 = b := ⟨_, rfl⟩
      rw [hfd] at HS
      replace hx := hide hx
      replace hnod := hide hnod
      replace h4 := hide h4
      replace hR := hide hR
      replace hTi := hide hTi
      replace hm := hm
      cases fd
      · rw [sendAll_no hfd] at HS
        go_wp2_with fail
        refine Calls.mono HS.out ?_
        rintro e w2 ⟨rfl, TL2, ⟨g2, n2, u2, t2, y2⟩, _, hsame⟩
        obtain rfl : TL2 = TLi := hsame (.inr rfl)
        have hB2 : g2.h q.dest = some Bq := (y2.out q.dest (fun h => by cases h.1)).trans hB
        obtain ⟨fn, hb2, hfn⟩ := n2.srOf hqm hB2
        have c5 := hb2.cell.2.2.2.2.2
        rw [hfn (by omega)] at c5
        have y2' := hide (fun z => y2.out z (fun h => by cases h.1))
        have hstep : si.step q = if q.out then si.widen q else si.ask q := by
          unfold St.step
          rw [hfd]
          rfl
        obtain ⟨qo, hqo⟩ : ∃ b, q.out = b := ⟨_, rfl⟩
        rw [hqo] at c5 hstep
        clear HS hsame hb2 hfn y2 d0 b0 ni
        cases qo
        · have HA := hide (N_ask n2 hR.out (by omega) q hqm Bq hB2 (by omega) (by omega) hTi.out)
          obtain ⟨s2, hs2⟩ : ∃ z, si.ask q = z := ⟨_, rfl⟩
          have hT2 := hide (ask_TmR si q q TL2 rfl)
          rw [hs2] at HA hT2
          have hst2 : Hid (si.step q = s2) := by show _ = _; rw [hstep, ← hs2]; rfl
          clear hs2 hstep n2
          simp only [srFn, if_false, Bool.false_eq_true] at c5
          go_wp2_with fail
          refine Calls.mono HA.out ?_
          rintro e w5 ⟨rfl, g5, n5, u5, t5, y5⟩
          have hn := hide (hnx.out s2 g5 _ w5 hst2.out n5 (u2.trans u5) (t5.out.trans t2.out) (fun z _ => by rw [y5.out.1]; exact y2'.out z) hT2.out)
          clear HA n5 u5 u2 hnx hT2
          go_wp2
          go_roundw
          case rel => exact ⟨i + 1, by omega, by go_num, hn.out⟩
          case measure => simp [intOf]; omega
        · have HA := hide (N_widen n2 hR.out hdl q hqm Bq hB2 (by omega) (by omega) hTi.out)
          obtain ⟨s2, hs2⟩ : ∃ z, si.widen q = z := ⟨_, rfl⟩
          rw [hs2] at HA
          have hst2 : Hid (si.step q = s2) := by show _ = _; rw [hstep, ← hs2]; rfl
          clear hs2 hstep n2
          simp only [srFn, if_true] at c5
          go_wp2_with fail
          refine Calls.mono HA.out ?_
          rintro e w5 ⟨rfl, TL5, ⟨g5, n5, u5, t5, y5⟩, hT2⟩
          have hn := hide (hnx.out s2 g5 _ w5 hst2.out n5 (u2.trans u5) (t5.out.trans t2.out) (fun z hz => (y5.out z hz).trans (y2'.out z)) hT2)
          clear HA n5 u5 u2 hnx hT2
          go_wp2
          go_roundw
          case rel => exact ⟨i + 1, by omega, by go_num, hn.out⟩
          case measure => simp [intOf]; omega
      · obtain ⟨s2, hs2⟩ : ∃ z, si.sendAll q.dest = z := ⟨_, rfl⟩
        have hT2 : Hid (∀ TL2, Took q.id TLi TL2 → TmR q si TLi s2 TL2) := fun TL2 h => by rw [← hs2]; exact sendAll_tm hqm hnod.out hfd h h4.out
        have hst2 : Hid (si.step q = s2) := by
          show _ = _
          unfold St.step
          rw [hfd, ← hs2]
          rfl
        rw [hs2] at HS
        clear hs2 hfd
        go_wp2_with fail
        refine Calls.mono HS.out ?_
        rintro e w2 ⟨rfl, TL2, ⟨g2, n2, u2, t2, y2⟩, htk, _⟩
        have hn := hide (hnx.out s2 g2 _ w2 hst2.out n2 u2 t2.out (fun z hz => y2.out z (by rintro ⟨_, q', h, rfl⟩; cases h; exact hz rfl)) (hT2.out TL2 (htk q rfl rfl)))
        clear HS n2 u2 hnx hT2 htk y2 ni d0 b0
        go_wp2
        go_roundw
        case rel => exact ⟨i + 1, by omega, by go_num, hn.out⟩
        case measure => simp [intOf]; omega
    · obtain rfl : i = D.length := by omega
      go_wp2
      go_returns
      exact ⟨rfl, g1, w1, hg⟩
end Go.Proofs.YtakaadcpaeiccabGreat
