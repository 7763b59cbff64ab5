import Derived.Test.YtakaadcpaeiccabGreatC39
namespace Go.Proofs.YtakaadcpaeiccabGreat
open Go.RowKit Go.Maps

/-! A text waits for a route. -/
theorem info_str : (Tryz.prog.info? 9).map (fun i => (i.zero, i.size, i.bytes)) = some (some (.string ⟨#[]⟩), 1, 16) := by kernel_rfl
theorem cells_str (W : World) (r : ByteArray) : ∀ (j : Nat) (u : Value), ([.string r] : List Value)[j]? = some u → (W.alloc (.cells #[.string r] 9)).cell? ((⟨W.heap.size, 0, none⟩ : Addr).add j) = some u := by
  intro j u hj
  have h := heap_alloc_new W (.cells #[.string r] 9)
  rw [Addr.add_lit, Nat.zero_add]
  match j, hj with
  | 0, hj => cases hj; exact cell_of_row _ _ 0 _ _ _ h
def updV (u : Int → Value) (d : Int) (v : Value) : Int → Value := fun x => if x = d then v else u x
theorem SrB.setTx {B : Nat} {q : Sr} {v fn : Value} {W : World} (h : SrB B q v fn W) (T : List ByteArray) (v' : Value) : SrB B { q with txt := T } v' fn (W.setCell ⟨B, 1, none⟩ v') := by
  unfold SrB at h ⊢
  simp [World.setCell, Array.getElem?_modify, h]
theorem SrL.setTx {B : Nat} {q : Sr} {v : Value} {W : World} (h : SrL B q v W) (T : List ByteArray) (v' : Value) : SrL B { q with txt := T } v' (W.setCell ⟨B, 1, none⟩ v') := by
  obtain ⟨fn, h1, h2⟩ := h
  exact ⟨fn, h1.setTx T v', h2⟩
theorem sr_self {Q : List Sr} (hn : Q.Pairwise fun a b => a.dest ≠ b.dest) {z q : Sr} (hz : z ∈ Q) (hq : q ∈ Q) (e : z.dest = q.dest) : z = q := by
  induction Q with
  | nil => cases hz
  | cons a Q ih =>
    rw [List.pairwise_cons] at hn
    rcases List.mem_cons.1 hz with k1 | k1
    · rcases List.mem_cons.1 hq with k2 | k2
      · rw [k1, k2]
      · exact absurd (k1 ▸ e) (hn.1 q k2)
    · rcases List.mem_cons.1 hq with k2 | k2
      · exact absurd (k2 ▸ e).symm (hn.1 z k1)
      · exact ih hn.2 k1 k2
/-- The texts of one search have turned. -/
theorem SrM.setT {Ms : Nat} {h : Int → Option Nat} {u : Int → Value} {Q : List Sr} {W W' : World} (r : SrM Ms h u Q W) {q q' : Sr} (hq : q ∈ Q) (hd : q'.dest = q.dest) (hok : q'.Ok) {Bq : Nat} (hB : h q.dest = some Bq) {v' : Value} (hL : SrL Bq q' v' W') (hrow : W'.ownsRow 0 9 1 v' q'.txt.length (q'.txt.map Value.string)) (hblk : v'.ownBlock = (u q.dest).ownBlock ∨ ∃ b, v'.ownBlock = some b ∧ W.heap.size ≤ b) (hf : Fx (fun k => k = Bq ∨ (u q.dest).ownBlock = some k) W W') : SrM Ms h (updV u q.dest v') (St.setQ Q q') W' := by
  obtain ⟨B', hb1, hb2⟩ := r.ln q hq
  rw [hB] at hb1
  cases hb1
  obtain ⟨cB, hcB⟩ := hb2.obj
  have hno : ∀ {k : Nat} {o : Obj}, W.heap[k]? = some o → (∀ c, o ≠ .cells c 177 (0, 0)) → (∀ c, o ≠ .cells c 9 (0, 0)) → W'.heap[k]? = W.heap[k]? := fun {k o} ho h1 h2 => hf.block k (some_lt ho) (by
    rintro (rfl | hk)
    · rw [hcB] at ho
      exact h1 _ (Option.some.inj ho).symm
    · obtain ⟨c, hc⟩ := row_obj (r.row q hq) hk
      rw [hc] at ho
      exact h2 _ (Option.some.inj ho).symm)
  have horig : ∀ z ∈ St.setQ Q q', (z = q' ∨ (z ∈ Q ∧ z.dest ≠ q.dest)) := fun z hz => by
    rcases setQ_mem hz with h | ⟨h1, h2⟩
    · exact .inl h
    · exact .inr ⟨h1, hd ▸ h2⟩
  have hu1 : updV u q.dest v' q'.dest = v' := by unfold updV; rw [if_pos hd]
  have hu2 : ∀ z : Sr, z.dest ≠ q.dest → updV u q.dest v' z.dest = u z.dest := fun z hz => by unfold updV; rw [if_neg hz]
  have hap : ∀ z ∈ Q, z.dest ≠ q.dest → v'.ownBlock = none ∨ v'.ownBlock ≠ (u z.dest).ownBlock := fun z hz hne => by
    rcases hblk with h1 | ⟨b, h1, h2⟩
    · rw [h1]
      exact r.apart q hq z hz (Ne.symm hne)
    · rw [h1]
      refine .inr fun e => ?_
      have := ((r.row z hz).lt b e.symm).2
      omega
  refine ⟨by rw [setQ_len]; obtain ⟨es, cl, hm⟩ := r.map.obj; exact r.map.block (hno hm (fun _ e => by cases e) (fun _ e => by cases e)), by rw [pw_dest, setQ_dest, ← pw_dest]; exact r.nod, fun z hz => ?_, fun d B hd' hB' => ?_, fun z hz => ?_, fun z hz => ?_, fun a ha b hb hne => ?_, by rw [setQ_len]; exact r.len⟩
  · rcases horig z hz with rfl | ⟨h1, _⟩
    · exact hok
    · exact r.ok z h1
  · obtain ⟨y, hy, rfl⟩ := r.dom d B hd' hB'
    by_cases e : y.dest = q'.dest
    · exact ⟨q', (mem_setQ hy).1 e, e.symm⟩
    · exact ⟨y, (mem_setQ hy).2 e, rfl⟩
  · rcases horig z hz with rfl | ⟨h1, h2⟩
    · rw [hu1, hd]
      exact ⟨Bq, hB, hL⟩
    · obtain ⟨B', k1, k2⟩ := r.ln z h1
      rw [hu2 z h2]
      refine ⟨B', k1, k2.block (hf.block _ k2.lt ?_)⟩
      rintro (rfl | hk)
      · obtain ⟨fn1, m1, _⟩ := k2
        obtain ⟨fn2, m2, _⟩ := hb2
        unfold SrB at m1 m2
        rw [m1] at m2
        simp only [srBox, Option.some.injEq, Obj.cells.injEq, Array.mk.injEq, List.cons.injEq, Value.int.injEq, true_and] at m2
        exact h2 m2.1.1
      · obtain ⟨c, hc⟩ := row_obj (r.row q hq) hk
        obtain ⟨c', hc'⟩ := k2.obj
        rw [hc] at hc'
        cases hc'
  · rcases horig z hz with rfl | ⟨h1, h2⟩
    · rw [hu1]
      exact hrow
    · rw [hu2 z h2]
      refine row_at (r.row z h1) fun k hk => hf.block k ((r.row z h1).lt k hk).2 ?_
      rintro (rfl | hk')
      · obtain ⟨c, hc⟩ := row_obj (r.row z h1) hk
        rw [hcB] at hc
        cases hc
      · rcases r.apart q hq z h1 (Ne.symm h2) with e | e
        · rw [e] at hk'; cases hk'
        · exact e (hk'.trans hk.symm)
  · rcases horig a ha with rfl | ⟨a1, a2⟩ <;> rcases horig b hb with rfl | ⟨b1, b2⟩
    · exact absurd rfl hne
    · rw [hu1, hu2 b b2]
      exact hap b b1 b2
    · rw [hu1, hu2 a a2]
      rcases hap a a1 a2 with e | e
      · by_cases hn : (u a.dest).ownBlock = none
        · exact .inl hn
        · exact .inr (by rw [e]; exact hn)
      · exact .inr (Ne.symm e)
    · rw [hu2 a a2, hu2 b b2]
      exact r.apart a a1 b b1 hne

/-- .. in a whole node. -/
theorem Nd.setT {N B : Nat} {g : NdG} {s : St} {TL : List Hp.Tm} {W W' : World} (n : Nd N B g s TL W) {q q' : Sr} (hq : q ∈ s.Q) (hd : q'.dest = q.dest) (hok : q'.Ok) {Bq : Nat} (hB : g.h q.dest = some Bq) {v' : Value} (hL : SrL Bq q' v' W') (hrow : W'.ownsRow 0 9 1 v' q'.txt.length (q'.txt.map Value.string)) (hblk : v'.ownBlock = (g.u q.dest).ownBlock ∨ ∃ b, v'.ownBlock = some b ∧ W.heap.size ≤ b) (hf : Fx (fun k => k = Bq ∨ (g.u q.dest).ownBlock = some k) W W') :
    Nd N B { g with u := updV g.u q.dest v' } { s with Q := St.setQ s.Q q' } TL W' ∧ Up B (Ft N g s) (Ft N { g with u := updV g.u q.dest v' } { s with Q := St.setQ s.Q q' }) W W' := by
  have hr := n.nn.rs
  obtain ⟨e1, e2, e3, e4, e5, e6, e7, e8, e9⟩ := n.nn.eq
  obtain ⟨c, hc⟩ := (n.srOf hq hB).obj
  have hno : ∀ {k : Nat} {o : Obj}, W.heap[k]? = some o → (∀ c, o ≠ .cells c 177 (0, 0)) → (∀ c, o ≠ .cells c 9 (0, 0)) → W'.heap[k]? = W.heap[k]? := fun {k o} ho h1 h2 => hf.block k (some_lt ho) (by
    rintro (rfl | hk)
    · rw [hc] at ho
      exact h1 _ (Option.some.inj ho).symm
    · obtain ⟨c, hc⟩ := row_obj (hr.sr.row q hq) hk
      rw [hc] at ho
      exact h2 _ (Option.some.inj ho).symm)
  have hBin : ∀ k, (k = Bq ∨ (g.u q.dest).ownBlock = some k) → RsIn g.x g.h g.u g.Mt g.tv s k := fun k h => .inr (.inl (.inr ⟨q, hq, h.imp (fun e => by rw [e]; exact hB) id⟩))
  refine n.rest (s' := { s with Q := St.setQ s.Q q' }) (TL' := TL) (x' := g.x) (h' := g.h) (u' := updV g.u q.dest v') (Mt' := g.Mt) (hp' := g.hp) (tv' := g.tv) (n.nn.cr.nd.block (hno n.nn.cr.nd (fun _ e => by cases e) (fun _ e => by cases e))) rfl rfl ⟨e1, e2, e3, e4, e5, e6, e7, e8, e9⟩
    ⟨hr.sn.block (by obtain ⟨es, cl, hm⟩ := hr.sn.obj; exact hno hm (fun _ e => by cases e) (fun _ e => by cases e)), hr.sr.setT hq hd hok hB hL hrow hblk hf, hr.tm.at (hno hr.tm.blk (fun _ e => by cases e) (fun _ e => by cases e)) (by
      obtain ⟨f, p1, _⟩ := hr.tm.map
      obtain ⟨es, cl, hm⟩ := p1.obj
      exact hno hm (fun _ e => by cases e) (fun _ e => by cases e)) (fun k hk => by
      obtain ⟨c, hc⟩ := row_obj hr.tm.row hk
      exact hno hc (fun _ e => by cases e) (fun _ e => by cases e)), hr.hpo, hr.pm, row_at hr.pc fun k hk => by
      obtain ⟨c, hc⟩ := row_obj hr.pc hk
      exact hno hc (fun _ e => by cases e) (fun _ e => by cases e)⟩
    (hf.mono fun k h => .inr (hBin k h)) (fun k hk => ?_) ⟨rfl, rfl, rfl⟩ ⟨rfl, rfl, rfl, rfl, rfl, rfl, rfl, rfl, rfl⟩
  rcases hk with h | h | h
  · exact .inl (.inl h)
  · rcases h with h | ⟨z, hz, h⟩
    · exact .inl (.inr (.inl (.inl h)))
    · rcases setQ_mem hz with rfl | ⟨h1, h2⟩
      · rcases h with h | h
        · rw [hd] at h
          exact .inl (.inr (.inl (.inr ⟨q, hq, .inl h⟩)))
        · unfold updV at h
          rw [if_pos hd] at h
          rcases hblk with h3 | ⟨b, h3, h4⟩
          · exact .inl (.inr (.inl (.inr ⟨q, hq, .inr (h3 ▸ h)⟩)))
          · rw [h3] at h
            cases h
            exact .inr ⟨h4, (hrow.lt k h3).2⟩
      · have h2' : z.dest ≠ q.dest := hd ▸ h2
        rcases h with h | h
        · exact .inl (.inr (.inl (.inr ⟨z, h1, .inl h⟩)))
        · unfold updV at h
          rw [if_neg h2'] at h
          exact .inl (.inr (.inl (.inr ⟨z, h1, .inr h⟩)))
  · exact .inl (.inr (.inr h))

/-- What is left behind a text that waits. -/
def HoP (N B : Nat) (g : NdG) (s s2 : St) (TL : List Hp.Tm) (w w' : World) : Prop := ∃ g', Nd N B g' s2 TL w' ∧ Up B (Ft N g s) (Ft N g' s2) w w' ∧ Hid (g'.x.T = g.x.T) ∧ Hid (g'.h = g.h)

set_option maxRecDepth 100000 in
set_option maxHeartbeats 8000000 in
theorem N_hold {N B : Nat} {g : NdG} {s : St} {TL : List Hp.Tm} {w : World} (n : Nd N B g s TL w) (hdl : s.drs.length ≤ 900000) (q : Sr) (hq : q ∈ s.Q) (Bq : Nat) (hB : g.h q.dest = some Bq) (t : ByteArray) (ht : t.size ≤ 16) :
    Calls Tryz.prog 82 #[.pointer (some ⟨Bq, 0, none⟩), .pointer (some ⟨B, 0, none⟩), .string t] w fun e w' => e = .returned (.tuple #[]) ∧ HoP N B g s { (s.hold q t).1 with Q := St.setQ s.Q (s.hold q t).2 } TL w w' := by
  obtain ⟨i0, hi, hz0, hz1, hz2⟩ := info_parts info_str
  have hok := n.nn.rs.sr.ok q hq
  have hrow := n.nn.rs.sr.row q hq
  have hL := n.srOf hq hB
  obtain ⟨s9, hs9⟩ : ∃ z, ({ (s.hold q t).1 with Q := St.setQ s.Q (s.hold q t).2 } : St) = z := ⟨_, rfl⟩
  rw [hs9]
  have HClG : ∀ W0 : World, Hid (∀ W5, Below W0.heap.size W0 W5 → Calls Tryz.prog 119 #[.string t] W5 fun e w' => e = .returned (.string t) ∧ Below W0.heap.size W0 w') := by
    intro W0 W5 h5
    refine (clone_any t W5 (by omega)).mono ?_
    rintro e w' ⟨rfl, hb⟩
    exact ⟨rfl, h5.trans (hb.mono h5.size)⟩
  -- the text is laid behind the others
  have hApp : ∀ (g1 : NdG) (s1 : St) (q1 : Sr) (W1 : World), Nd N B g1 s1 TL W1 → q1 ∈ s1.Q → q1.dest = q.dest → g1.h q1.dest = some Bq → q1.txt.length ≤ 3 → (∀ u, Up B u (Ft N g1 s1) w W1 → u = Ft N g s → Hid (g1.x.T = g.x.T) → Hid (g1.h = g.h) → { s1 with Q := St.setQ s1.Q { q1 with txt := q1.txt ++ [t] } } = s9 →
      ∃ ao c, ∀ W5, Below W1.heap.size W1 W5 → ∃ v, v = .slice ao q1.txt.length c ∧ W5.cell? ⟨Bq, 1, none⟩ = some v ∧ (W5.alloc (.cells #[.string t] 9)).cell? ⟨Bq, 1, none⟩ = some v ∧ (W5.alloc (.cells #[.string t] 9)).ownsRow 0 9 1 v q1.txt.length (q1.txt.map Value.string) ∧ (∀ j u, ([.string t] : List Value)[j]? = some u → (W5.alloc (.cells #[.string t] 9)).cell? ((⟨W5.heap.size, 0, none⟩ : Addr).add j) = some u) ∧
        ∀ v7 w7, w7.ownsRow 0 9 1 v7 (q1.txt.length + 1) (q1.txt.map Value.string ++ [.string t]) → (W5.alloc (.cells #[.string t] 9)).grownBy w7 v.ownBlock → (v7.ownBlock = v.ownBlock ∨ v7.ownBlock = some (W5.alloc (.cells #[.string t] 9)).heap.size) → (∃ x, w7.cell? ⟨Bq, 1, none⟩ = some x) ∧ w7.frozen? ⟨Bq, 1, none⟩ = false ∧ HoP N B g s s9 TL w (w7.setCell ⟨Bq, 1, none⟩ v7)) := by
    intro g1 s1 q1 W1 n1 hq1 hd1 hB1 hl1 u up hu t1 y1 e9
    obtain ⟨ao, c, hv, _⟩ := row_form (n1.nn.rs.sr.row q1 hq1)
    refine ⟨ao, c, fun W5 h5 => ?_⟩
    subst hu
    have n5 := n1.later h5
    have hL5 := n5.srOf hq1 hB1
    have hr5 := n5.nn.rs.sr.row q1 hq1
    have ok1 := n5.nn.rs.sr.ok q1 hq1
    have hbA : Below W5.heap.size W5 (W5.alloc (.cells #[.string t] 9)) := (Below.refl _ _).alloc (Nat.le_refl _) _
    have n6 := n5.later hbA
    have hL6 := n6.srOf hq1 hB1
    have hr6 := n6.nn.rs.sr.row q1 hq1
    refine ⟨_, hv, hL5.cell.2.1, hL6.cell.2.1, hr6, cells_str W5 t, fun v7 w7 ho hg hv => ?_⟩
    obtain ⟨cB, hcB⟩ := hL6.obj
    have hne : (g1.u q1.dest).ownBlock ≠ some Bq := row_not hr6 hcB (fun c e => by cases e)
    have hL7 : SrL Bq q1 (g1.u q1.dest) w7 := hL6.block (hg.block Bq hL6.lt (fun e => hne e.symm))
    have hL8 := hL7.setTx (q1.txt ++ [t]) v7
    have hgB : w7.grownBy (w7.setCell ⟨Bq, 1, none⟩ v7) (some Bq) := grown_cellOf (grown_self _ (some Bq)) 1 _
    obtain ⟨c7, hc7⟩ := hL7.obj
    have ho8 := ho.kept hgB (.inr (row_not ho hc7 (fun c e => by cases e)))
    have hfx : Fx (fun k => k = Bq ∨ (g1.u q1.dest).ownBlock = some k) (W5.alloc (.cells #[.string t] 9)) (w7.setCell ⟨Bq, 1, none⟩ v7) := grown_Fx (Fx.grown hg fun k e => .inr e) hgB (fun i _ e => .inl (Option.some.inj e).symm)
    obtain ⟨p, uu⟩ := n6.setT (q' := { q1 with txt := q1.txt ++ [t] }) hq1 rfl ⟨ok1.dest, ok1.ttl, ok1.ret, by dsimp only; rw [List.length_append, List.length_singleton]; omega, fun z hz => (List.mem_append.1 hz).elim (ok1.siz z) (fun h => by rw [List.mem_singleton] at h; subst h; exact ht), ok1.id⟩ hB1 hL8 (by dsimp only; rw [List.length_append, List.map_append]; exact ho8) (hv.imp id fun h => ⟨_, h, Nat.le_refl _⟩) hfx
    rw [e9] at p uu
    exact ⟨⟨_, hL7.cell.2.1⟩, hL7.frees 1, _, p, ((up.trans (.below h5)).trans (.below hbA)).trans uu, t1, y1⟩
  obtain ⟨ao, c, hv, _⟩ := row_form hrow
  obtain ⟨k0, k1, k2, k3, k4⟩ := hL.cell
  by_cases h4 : q.txt.length = 4
  · have e9 : ({ s.drop 6 with Q := St.setQ s.Q { q with txt := q.txt.tail ++ [t] } } : St) = s9 := by
      rw [← hs9]
      unfold St.hold
      rw [if_pos h4]
    obtain ⟨gb, cap, hv', _⟩ := row_shape' hrow (by omega)
    rw [hv', h4] at hrow
    have HD := DS.Delete_any 0 gb 4 cap 0 _ w hrow (by omega) (by omega) (fun u hu => by
      obtain ⟨z, _, rfl⟩ := List.mem_map.1 hu
      rfl)
    have htl : (q.txt.map Value.string).take 0 ++ (q.txt.map Value.string).drop (0 + 1) = q.txt.tail.map Value.string := by
      rw [List.take_zero, List.nil_append, Nat.zero_add, List.drop_one, List.map_tail]
    rw [htl] at HD
    have HD2 : Hid (Calls Tryz.prog 118 #[.slice (some ⟨gb, 0, none⟩) 4 cap, .int .i64 0, .int .i64 1] w fun e w' => e = .returned (.slice (some ⟨gb, 0, none⟩) 3 cap) ∧ (∃ x, w'.cell? ⟨Bq, 1, none⟩ = some x) ∧ w'.frozen? ⟨Bq, 1, none⟩ = false ∧ ∃ g1, Nd N B g1 { s with Q := St.setQ s.Q { q with txt := q.txt.tail } } TL (w'.setCell ⟨Bq, 1, none⟩ (.slice (some ⟨gb, 0, none⟩) 3 cap)) ∧ Up B (Ft N g s) (Ft N g1 { s with Q := St.setQ s.Q { q with txt := q.txt.tail } }) w (w'.setCell ⟨Bq, 1, none⟩ (.slice (some ⟨gb, 0, none⟩) 3 cap)) ∧ Hid (g1.x.T = g.x.T) ∧ Hid (g1.h = g.h)) := by
      refine Calls.mono HD ?_
      rintro e w' ⟨rfl, h1, h2⟩
      obtain ⟨cB, hcB⟩ := hL.obj
      have hne : gb ≠ Bq := by
        have := row_not hrow hcB (fun c e => by cases e)
        simpa [Value.ownBlock] using this
      have hL1 : SrL Bq q (g.u q.dest) w' := hL.block (h2.block Bq hL.lt (fun e => hne (Option.some.inj e).symm))
      have hL2 := hL1.setTx q.txt.tail (.slice (some ⟨gb, 0, none⟩) 3 cap)
      have hgB : w'.grownBy (w'.setCell ⟨Bq, 1, none⟩ (.slice (some ⟨gb, 0, none⟩) 3 cap)) (some Bq) := grown_cellOf (grown_self _ (some Bq)) 1 _
      obtain ⟨c7, hc7⟩ := hL1.obj
      have ho8 := h1.kept hgB (.inr (row_not h1 hc7 (fun c e => by cases e)))
      have hfx : Fx (fun k => k = Bq ∨ (g.u q.dest).ownBlock = some k) w (w'.setCell ⟨Bq, 1, none⟩ (.slice (some ⟨gb, 0, none⟩) 3 cap)) := grown_Fx (Fx.grown h2 fun k e => .inr (by rw [hv', ← e]; rfl)) hgB (fun i _ e => .inl (Option.some.inj e).symm)
      have hl3 : q.txt.tail.length = 3 := by rw [List.length_tail]; omega
      obtain ⟨p, uu⟩ := n.setT (q' := { q with txt := q.txt.tail }) hq rfl ⟨hok.dest, hok.ttl, hok.ret, by dsimp only; omega, fun z hz => hok.siz z (List.mem_of_mem_tail hz), hok.id⟩ hB hL2 (by dsimp only; rw [hl3]; exact ho8) (.inl (by rw [hv']; rfl)) hfx
      exact ⟨rfl, ⟨_, hL1.cell.2.1⟩, hL1.frees 1, _, p, uu, rfl, rfl⟩
    rw [hv', h4] at k1
    clear hL n HD hrow
    go_enter Tryz.func82, Tryz.ntmps82
    go_wp2_with fail
    refine Calls.mono HD2.out ?_
    rintro e w1 ⟨rfl, ⟨x1, j1⟩, j2, g1, n1, u1, t1, y1⟩
    clear HD2 k0 k1 k2 k3 k4
    have HX := hide (N_dropS n1 6 (by dsimp only; omega))
    obtain ⟨s1, hs1⟩ : ∃ z, ({ s with Q := St.setQ s.Q { q with txt := q.txt.tail } } : St).drop 6 = z := ⟨_, rfl⟩
    have hs1' : Hid (s1.Q = St.setQ s.Q { q with txt := q.txt.tail } ∧ { s1 with Q := St.setQ s1.Q { q with txt := q.txt.tail ++ [t] } } = s9) := by
      show _ ∧ _
      rw [← hs1, ← e9]
      refine ⟨rfl, ?_⟩
      show ({ s.drop 6 with Q := St.setQ (St.setQ s.Q { q with txt := q.txt.tail }) { q with txt := q.txt.tail ++ [t] } } : St) = _
      rw [setQ_twice s.Q (a := { q with txt := q.txt.tail }) (b := { q with txt := q.txt.tail ++ [t] }) rfl]
    rw [hs1] at HX
    go_upto_region 2 with (fail)
    generalize World.setCell _ _ _ = W2 at HX u1
    clear n1 hs1
    go_wp2_with fail
    refine Calls.mono HX.out ?_
    rintro e w3 ⟨rfl, g3, n3, u3, t3, y3⟩
    have hq3 : ({ q with txt := q.txt.tail } : Sr) ∈ s1.Q := by rw [hs1'.out.1]; exact (mem_setQ hq).1 rfl
    have hB3 : g3.h ({ q with txt := q.txt.tail } : Sr).dest = some Bq := by rw [y3.out.1, y1.out]; exact hB
    have HK := hide (hApp g3 s1 { q with txt := q.txt.tail } w3 n3 hq3 rfl hB3 (by dsimp only; rw [List.length_tail]; omega) _ (u1.trans u3) rfl (t3.out.trans t1.out) (y3.out.1.trans y1.out) hs1'.out.2)
    have HCl := HClG w3
    have hlt : Hid (({ q with txt := q.txt.tail } : Sr).txt.length ≤ 3) := by show _ ≤ _; dsimp only; rw [List.length_tail]; omega
    generalize ({ q with txt := q.txt.tail } : Sr) = q3 at HK hlt
    clear hApp HClG HX n3 u3 u1 hq3 hB3 hs1' e9 hs9 t3 y3 t1 y1 hok hv hv' j1 j2
    go_wp2_with fail
    obtain ⟨aq, cq, HK⟩ := HK.out
    replace HK := hide HK
    obtain ⟨_, rfl, kk, _, _⟩ := HK.out _ (Below.refl _ _).drew
    obtain ⟨_, rfl, kw, _, _⟩ := HK.out _ (Below.refl _ _)
    go_region_law (first
      | (go_simp; go_at_call 119; refine (HCl.out _ (by first | exact Below.refl _ _ | exact (Below.refl _ _).drew | exact below_drewN (Below.refl _ _) _)).mono ?_; rintro e w5 ⟨rfl, hb5⟩; obtain ⟨v5, rfl, m1, m2, m3, m4, m5⟩ := HK.out _ hb5)
      | (refine step_append_at rfl (.tmp 26) (.tmp 29) 80 rfl 0 9 i0 (.string ⟨#[]⟩) 1 16 Tryz.underlying80 hi hz0 hz1 hz2 rfl (by decide) _ _ _ rfl m3 ⟨w5.heap.size, 0, none⟩ 1 1 [.string t] rfl rfl m4 (by simp [Value.oneCell']) (by unfold maxLen; have := hlt.out; omega) (by have := hlt.out; omega) (Nat.zero_le _) ?_; intro v7 w7 ho7 hg7 hv7; obtain ⟨⟨x7, f1⟩, f2, hfin⟩ := m5 v7 w7 ho7 hg7 hv7; obtain ⟨ao7, cc7, rfl, _⟩ := row_form ho7; replace hfin := hide hfin))
    all_goals (generalize World.setCell _ _ _ = w8 at hfin ⊢; go_wp2; go_returns; exact ⟨rfl, hfin.out⟩)
  · have e9 : ({ s with Q := St.setQ s.Q { q with txt := q.txt ++ [t] } } : St) = s9 := by
      rw [← hs9]
      unfold St.hold
      rw [if_neg h4]
    have hlt' : q.txt.length ≤ 3 := by have := hok.txt; omega
    have h4' : ((q.txt.length : Int) == 4) = false := by simp; omega
    have HK := hide (hApp g s q w n hq rfl hB hlt' _ (Up.refl _ _ _) rfl rfl rfl e9)
    have HCl := HClG w
    have hlt : Hid (q.txt.length ≤ 3) := hlt'
    rw [hv] at k1
    go_enter Tryz.func82, Tryz.ntmps82
    go_wp2_with fail
    clear hApp HClG n hs9 e9 hrow hL hok k0 k1 k2 k3 k4 hv h4 h4' hlt' hB hq
    obtain ⟨aq, cq, HK⟩ := HK.out
    replace HK := hide HK
    obtain ⟨_, rfl, kk, _, _⟩ := HK.out _ (Below.refl _ _).drew
    obtain ⟨_, rfl, kw, _, _⟩ := HK.out _ (Below.refl _ _)
    go_region_law (first
      | (go_simp; go_at_call 119; refine (HCl.out _ (by first | exact Below.refl _ _ | exact (Below.refl _ _).drew | exact below_drewN (Below.refl _ _) _)).mono ?_; rintro e w5 ⟨rfl, hb5⟩; obtain ⟨v5, rfl, m1, m2, m3, m4, m5⟩ := HK.out _ hb5)
      | (refine step_append_at rfl (.tmp 26) (.tmp 29) 80 rfl 0 9 i0 (.string ⟨#[]⟩) 1 16 Tryz.underlying80 hi hz0 hz1 hz2 rfl (by decide) _ _ _ rfl m3 ⟨w5.heap.size, 0, none⟩ 1 1 [.string t] rfl rfl m4 (by simp [Value.oneCell']) (by unfold maxLen; have := hlt.out; omega) (by have := hlt.out; omega) (Nat.zero_le _) ?_; intro v7 w7 ho7 hg7 hv7; obtain ⟨⟨x7, f1⟩, f2, hfin⟩ := m5 v7 w7 ho7 hg7 hv7; obtain ⟨ao7, cc7, rfl, _⟩ := row_form ho7; replace hfin := hide hfin))
    all_goals (generalize World.setCell _ _ _ = w8 at hfin ⊢; go_wp2; go_returns; exact ⟨rfl, hfin.out⟩)
end Go.Proofs.YtakaadcpaeiccabGreat

namespace Go.Proofs.YtakaadcpaeiccabGreat
open Go.RowKit Go.Maps

/-! A search begins (await). -/
theorem SrL.nd {B : Nat} {q q' : Sr} {v v' : Value} {W : World} (h : SrL B q v W) (h' : SrL B q' v' W) : q.dest = q'.dest := by
  obtain ⟨fn1, m1, _⟩ := h
  obtain ⟨fn2, m2, _⟩ := h'
  unfold SrB at m1 m2
  rw [m1] at m2
  simp only [srBox, Option.some.injEq, Obj.cells.injEq, Array.mk.injEq, List.cons.injEq, Value.int.injEq, true_and] at m2
  exact m2.1.1
theorem SrM.add {Ms : Nat} {h : Int → Option Nat} {u : Int → Value} {Q : List Sr} {W W' : World} (r : SrM Ms h u Q W) {q : Sr} (hq : h q.dest = none) (hok : q.Ok) (ht : q.txt = []) (hl : Q.length ≤ 4999) {Bq : Nat} (hL : SrL Bq q (.slice none 0 0) W') (hm : MapP W' Ms (updP h q.dest (some Bq)) (Q.length + 1)) (he : ∀ k, SrIn Ms h u Q k → k ≠ Ms → W'.heap[k]? = W.heap[k]?) : SrM Ms (updP h q.dest (some Bq)) (updV u q.dest (.slice none 0 0)) (Q ++ [q]) W' := by
  have hno : ∀ z ∈ Q, z.dest ≠ q.dest := fun z hz e => by
    obtain ⟨B, h1, _⟩ := r.ln z hz
    rw [e, hq] at h1
    cases h1
  have hu1 : updV u q.dest (.slice none 0 0) q.dest = .slice none 0 0 := by unfold updV; rw [if_pos rfl]
  have hu2 : ∀ z ∈ Q, updV u q.dest (.slice none 0 0) z.dest = u z.dest := fun z hz => by unfold updV; rw [if_neg (hno z hz)]
  have hh2 : ∀ z ∈ Q, updP h q.dest (some Bq) z.dest = h z.dest := fun z hz => by unfold updP; rw [if_neg (hno z hz)]
  obtain ⟨es, cl, hmo⟩ := r.map.obj
  have hl' : (Q ++ [q]).length = Q.length + 1 := by simp
  refine ⟨by rw [hl']; exact hm, List.pairwise_append.2 ⟨r.nod, List.pairwise_singleton _ _, fun a ha b hb => by rw [List.mem_singleton] at hb; rw [hb]; exact hno a ha⟩, fun z hz => ?_, fun d B hd hB => ?_, fun z hz => ?_, fun z hz => ?_, fun a ha b hb hne => ?_, by omega⟩
  · rcases List.mem_append.1 hz with h1 | h1
    · exact r.ok z h1
    · rw [List.mem_singleton] at h1; rw [h1]; exact hok
  · by_cases e : d = q.dest
    · exact ⟨q, List.mem_append_right _ (List.mem_singleton.2 rfl), e.symm⟩
    · unfold updP at hB
      rw [if_neg e] at hB
      obtain ⟨z, hz, h1⟩ := r.dom d B hd hB
      exact ⟨z, List.mem_append_left _ hz, h1⟩
  · rcases List.mem_append.1 hz with h1 | h1
    · obtain ⟨B, k1, k2⟩ := r.ln z h1
      rw [hh2 z h1, hu2 z h1]
      refine ⟨B, k1, k2.block (he B (.inr ⟨z, h1, .inl k1⟩) ?_)⟩
      rintro rfl
      obtain ⟨c, hc⟩ := k2.obj
      rw [hmo] at hc
      cases hc
    · rw [List.mem_singleton] at h1
      subst h1
      rw [hu1]
      exact ⟨Bq, by unfold updP; rw [if_pos rfl], hL⟩
  · rcases List.mem_append.1 hz with h1 | h1
    · rw [hu2 z h1]
      refine row_at (r.row z h1) fun k hk => he k (.inr ⟨z, h1, .inr hk⟩) ?_
      rintro rfl
      obtain ⟨c, hc⟩ := row_obj (r.row z h1) hk
      rw [hmo] at hc
      cases hc
    · rw [List.mem_singleton] at h1
      subst h1
      rw [hu1, ht]
      exact ⟨rfl, .inl ⟨rfl, rfl⟩⟩
  · rcases List.mem_append.1 ha with a1 | a1 <;> rcases List.mem_append.1 hb with b1 | b1
    · rw [hu2 a a1, hu2 b b1]
      exact r.apart a a1 b b1 hne
    · rw [List.mem_singleton] at b1
      subst b1
      rw [hu1, hu2 a a1]
      by_cases hn : (u a.dest).ownBlock = none
      · exact .inl hn
      · exact .inr hn
    · rw [List.mem_singleton] at a1
      subst a1
      rw [hu1]
      exact .inl rfl
    · rw [List.mem_singleton] at a1 b1
      rw [a1, b1] at hne
      exact absurd rfl hne
/-- .. in a whole node. -/
theorem Nd.addQ {N B : Nat} {g : NdG} {s : St} {TL : List Hp.Tm} {W W' : World} (n : Nd N B g s TL W) (q : Sr) (hq : g.h q.dest = none) (hok : q.Ok) (ht : q.txt = []) (hl : s.Q.length ≤ 4999) {Bq : Nat} (hL : SrL Bq q (.slice none 0 0) W') (hBq : W.heap.size ≤ Bq) (hm : MapP W' g.x.Msr (updP g.h q.dest (some Bq)) (s.Q.length + 1)) (hf : Fx (fun k => k = g.x.Msr) W W') :
    Nd N B { g with h := updP g.h q.dest (some Bq), u := updV g.u q.dest (.slice none 0 0) } { s with Q := s.Q ++ [q] } TL W' ∧ Up B (Ft N g s) (Ft N { g with h := updP g.h q.dest (some Bq), u := updV g.u q.dest (.slice none 0 0) } { s with Q := s.Q ++ [q] }) W W' := by
  have hr := n.nn.rs
  obtain ⟨e1, e2, e3, e4, e5, e6, e7, e8, e9⟩ := n.nn.eq
  have hnd := n.nn.nod
  simp only [List.nodup_cons, List.mem_cons, List.not_mem_nil, or_false, not_or] at hnd
  obtain ⟨_, _, ⟨d1, d2⟩, d3, _⟩ := hnd
  have hk : ∀ {k : Nat} {o : Obj}, W.heap[k]? = some o → k ≠ g.x.Msr → W'.heap[k]? = W.heap[k]? := fun ho hn => hf.block _ (some_lt ho) hn
  have hno : ∀ {k : Nat} {o : Obj}, W.heap[k]? = some o → (∀ es cl, o ≠ .map es cl) → W'.heap[k]? = W.heap[k]? := by
    intro k o ho hc
    refine hk ho ?_
    rintro rfl
    obtain ⟨es, cl, hm0⟩ := hr.sr.map.obj
    rw [hm0] at ho
    exact hc _ _ (Option.some.inj ho).symm
  have hz : ∀ z ∈ s.Q, z.dest ≠ q.dest := fun z hz e => by
    obtain ⟨B, h1, _⟩ := hr.sr.ln z hz
    rw [e, hq] at h1
    cases h1
  refine n.rest (hno n.nn.cr.nd (fun _ _ e => by cases e) |> fun h => n.nn.cr.nd.block h) rfl rfl ⟨e1, e2, e3, e4, e5, e6, e7, e8, e9⟩ (h' := updP g.h q.dest (some Bq)) (u' := updV g.u q.dest (.slice none 0 0)) (Mt' := g.Mt) (hp' := g.hp) (tv' := g.tv)
    ⟨hr.sn.block ?_, hr.sr.add hq hok ht hl hL hm fun k hk1 hk2 => hf.block k (hr.sr.lt hk1) hk2, hr.tm.at (hno hr.tm.blk fun _ _ e => by cases e) ?_ (fun k hk1 => ?_), hr.hpo, hr.pm, row_at hr.pc fun k hk1 => ?_⟩
    (hf.mono fun k e => .inr (.inr (.inl (.inl e)))) (fun k hk1 => ?_) ⟨rfl, rfl, rfl⟩ ⟨rfl, rfl, rfl, rfl, rfl, rfl, rfl, rfl, rfl⟩
  · obtain ⟨es, cl, hm0⟩ := hr.sn.obj
    exact hk hm0 d1
  · obtain ⟨f, p1, _⟩ := hr.tm.map
    exact hf.block _ p1.lt (Ne.symm d3)
  · obtain ⟨c, hc⟩ := row_obj hr.tm.row hk1
    exact hno hc fun _ _ e => by cases e
  · obtain ⟨c, hc⟩ := row_obj hr.pc hk1
    exact hno hc fun _ _ e => by cases e
  · rcases hk1 with h | h | h
    · exact .inl (.inl h)
    · rcases h with h | ⟨z, hz1, h⟩
      · exact .inl (.inr (.inl (.inl h)))
      · rcases List.mem_append.1 hz1 with h1 | h1
        · refine .inl (.inr (.inl (.inr ⟨z, h1, h.imp (fun h => ?_) (fun h => ?_)⟩)))
          · simpa [updP, hz z h1] using h
          · simpa [updV, hz z h1] using h
        · rw [List.mem_singleton] at h1
          subst h1
          rcases h with h | h
          · unfold updP at h
            rw [if_pos rfl] at h
            cases h
            exact .inr ⟨hBq, hL.lt⟩
          · unfold updV at h
            rw [if_pos rfl] at h
            cases h
    · exact .inl (.inr (.inr h))

/-- What is left behind a text that is to wait. -/
def AwP (N B : Nat) (g : NdG) (s s2 : St) (TL : List Hp.Tm) (w w' : World) : Prop := ∃ TL', NdP N B g s s2 TL' w w' ∧ (TmOk s TL → TmOk s2 TL')
theorem setQ_app {Q : List Sr} {q0 q1 : Sr} (hd : q1.dest = q0.dest) (hz : ∀ z ∈ Q, z.dest ≠ q0.dest) : St.setQ (Q ++ [q0]) q1 = Q ++ [q1] := by
  unfold St.setQ
  rw [List.map_append, List.map_cons, List.map_nil, if_pos hd.symm]
  congr 1
  exact (List.map_congr_left fun z h => if_neg (by rw [hd]; exact hz z h)).trans (List.map_id _)
theorem setQ_tm {Q : List Sr} (hn : Q.Pairwise fun a b => a.dest ≠ b.dest) {q q' : Sr} (hq : q ∈ Q) (ht : tmOf q' = tmOf q) : (St.setQ Q q').map tmOf = Q.map tmOf := by
  have hd : q'.dest = q.dest := congrArg (·.2.2) ht
  unfold St.setQ
  rw [List.map_map]
  refine List.map_congr_left fun z hz => ?_
  show tmOf (if z.dest = q'.dest then q' else z) = tmOf z
  split
  · rename_i e
    rw [ht, sr_self hn hz hq (by rw [e, hd])]
  · rfl
theorem hold_tm (s : St) (q : Sr) (t : ByteArray) : tmOf (s.hold q t).2 = tmOf q := by
  unfold St.hold
  split <;> rfl
theorem newQ_ok {d : Int} (hd : U32 d) : (⟨d, [], 1, 0, 0, 0, false⟩ : Sr).Ok :=
  ⟨hd, by dsimp only; omega, Nat.zero_le _, Nat.zero_le _, fun _ h => (by cases h), by dsimp only; omega⟩
theorem await_none {s : St} {d : Int} (hso : St.srOf s.Q d = none) {t : ByteArray} (hz : ∀ z ∈ s.Q, z.dest ≠ d) : ({ ({ s with Q := s.Q ++ [⟨d, [], 1, 0, 0, 0, false⟩] } : St).hold ⟨d, [], 1, 0, 0, 0, false⟩ t |>.1 with Q := St.setQ (s.Q ++ [⟨d, [], 1, 0, 0, 0, false⟩]) (({ s with Q := s.Q ++ [⟨d, [], 1, 0, 0, 0, false⟩] } : St).hold ⟨d, [], 1, 0, 0, 0, false⟩ t).2 } : St) = { s with Q := s.Q ++ [St.newQ d t] } ∧ s.await d t = ({ s with Q := s.Q ++ [St.newQ d t] } : St).ask (St.newQ d t) := by
  constructor
  · show ({ s with Q := St.setQ (s.Q ++ [⟨d, [], 1, 0, 0, 0, false⟩]) (St.newQ d t) } : St) = _
    rw [setQ_app (q0 := ⟨d, [], 1, 0, 0, 0, false⟩) (q1 := St.newQ d t) rfl hz]
  · unfold St.await
    rw [hso]
theorem ask_tm {s : St} {d : Int} {t : ByteArray} {TL : List Hp.Tm} (hz : ∀ z ∈ s.Q, z.dest ≠ d) (h : TmOk s TL) : TmOk (({ s with Q := s.Q ++ [St.newQ d t] } : St).ask (St.newQ d t)) (TL ++ [(({ s with Q := s.Q ++ [St.newQ d t] } : St).askDue (St.newQ d t), s.tl + 1, d)]) := by
  obtain ⟨o, h1, _⟩ := ask_Q ({ s with Q := s.Q ++ [St.newQ d t] } : St) (St.newQ d t)
  unfold TmOk at h ⊢
  rw [h1]
  dsimp only
  rw [setQ_app (by rfl) (by exact hz), List.map_append]
  exact h.append_right _

set_option maxRecDepth 100000 in
set_option maxHeartbeats 8000000 in
theorem N_await {N B : Nat} {g : NdG} {s : St} {TL : List Hp.Tm} {w : World} (n : Nd N B g s TL w) (hR : s.Rdy) (hdl : s.drs.length ≤ 800000) (d : Int) (hd : U32 d) (t : ByteArray) (ht : t.size ≤ 16) (hl : TL.length ≤ 900000) (hQ : s.Q.length ≤ 4999) (htl : 0 ≤ s.tl ∧ s.tl ≤ 4000000000000000000) (hid : ∀ x ∈ TL, x.2.1 ≤ s.tl) :
    Calls Tryz.prog 54 #[.pointer (some ⟨N, 0, none⟩), .pointer (some ⟨B, 0, none⟩), .int .u32 d, .string t] w fun e w' => e = .returned (.tuple #[]) ∧ AwP N B g s (s.await d t) TL w w' := by
  have hlk := n.nn.rs.sr.map.looks_ok hd
  have c13 := n.nn.cr.nd.more.2.2.1
  obtain ⟨so, hso⟩ : ∃ o, St.srOf s.Q d = o := ⟨_, rfl⟩
  cases so with
  | some q =>
    obtain ⟨h1, h2, Bq, h3, _⟩ := n.nn.rs.sr.at hso
    have hB : g.h q.dest = some Bq := by rw [h2]; exact h3
    rw [h3] at hlk
    have HH := hide (N_hold n (by omega) q h1 Bq hB t ht)
    have hfin : Hid (∀ w', HoP N B g s { (s.hold q t).1 with Q := St.setQ s.Q (s.hold q t).2 } TL w w' → AwP N B g s (s.await d t) TL w w') := fun w' hp => by
      obtain ⟨g', p1, p2, p3, _⟩ := hp
      have e : s.await d t = { (s.hold q t).1 with Q := St.setQ s.Q (s.hold q t).2 } := by
        unfold St.await
        rw [hso]
      rw [e]
      refine ⟨TL, ⟨g', p1, p2, p3⟩, fun hT => ?_⟩
      unfold TmOk at hT ⊢
      dsimp only
      rw [setQ_tm n.nn.rs.sr.nod h1 (hold_tm s q t)]
      exact hT
    clear hso
    go_enter Tryz.func54, Tryz.ntmps54
    go_upto_region 4 with (fail)
    clear hlk c13
    go_wp2_with fail
    refine Calls.mono HH.out ?_
    rintro e w2 ⟨rfl, hp⟩
    have hfin2 := hide (hfin.out w2 hp)
    clear hfin hp HH
    go_wp2
    go_returns
    exact ⟨rfl, hfin2.out⟩
  | none =>
    have h3 := n.nn.rs.sr.off hd hso
    rw [h3] at hlk
    have hz : ∀ z ∈ s.Q, z.dest ≠ d := fun z hz e => by
      have := List.find?_eq_none.1 hso z hz
      simp at this
      exact this e
    obtain ⟨e1, e2⟩ := await_none (t := t) hso hz
    have hW1 := (Below.refl w.heap.size w).alloc (Nat.le_refl _) (.cells #[.int .u32 d, .slice none 0 0, .int .i64 1, .int .i64 0, .int .i64 0, .nilFunc] 177)
    have hL1 : SrL w.heap.size ⟨d, [], 1, 0, 0, 0, false⟩ (.slice none 0 0) (w.alloc (.cells #[.int .u32 d, .slice none 0 0, .int .i64 1, .int .i64 0, .int .i64 0, .nilFunc] 177)) := ⟨.nilFunc, heap_alloc_new _ _, fun h => absurd rfl h⟩
    obtain ⟨W2, hp, hm2, hg2⟩ := (n.nn.rs.sr.map.block (hW1.block _ n.nn.rs.sr.map.lt)).puts (by have := n.nn.rs.sr.len; unfold maxLen; omega) hd w.heap.size
    have n1 := n.later hW1
    have c13' := n1.nn.cr.nd.more.2.2.1
    have hw1 : w.heap.size < (w.alloc (.cells #[.int .u32 d, .slice none 0 0, .int .i64 1, .int .i64 0, .int .i64 0, .nilFunc] 177)).heap.size := by simp
    have hne : g.x.Msr ≠ w.heap.size := by have := n.nn.rs.sr.map.lt; omega
    have hf2 : Fx (fun k => k = g.x.Msr) w W2 := grown_Fx (Fx.below hW1) hg2 (fun i _ e => (Option.some.inj e).symm)
    rw [h3] at hm2
    obtain ⟨n2, u2⟩ := n.addQ ⟨d, [], 1, 0, 0, 0, false⟩ h3 (newQ_ok hd) rfl hQ (hL1.block (hg2.block w.heap.size hw1 (fun e => hne (Option.some.inj e).symm))) (Nat.le_refl _) hm2 hf2
    have HH := N_hold n2 (by dsimp only; omega) ⟨d, [], 1, 0, 0, 0, false⟩ (List.mem_append_right _ (List.mem_singleton.2 rfl)) w.heap.size (by dsimp only; unfold updP; rw [if_pos rfl]) t ht
    rw [e1] at HH
    have ht2 : Hid (({ g with h := updP g.h d (some w.heap.size), u := updV g.u d (.slice none 0 0) } : NdG).x.T = g.x.T) := rfl
    have hh2 : Hid (({ g with h := updP g.h d (some w.heap.size), u := updV g.u d (.slice none 0 0) } : NdG).h d = some w.heap.size) := by show _ = _; dsimp only; unfold updP; rw [if_pos rfl]
    dsimp only at HH u2
    generalize ({ g with h := updP g.h d (some w.heap.size), u := updV g.u d (.slice none 0 0) } : NdG) = g2 at HH u2 ht2 hh2
    have hTm : Hid (TmOk s TL → TmOk (s.await d t) (TL ++ [(({ s with Q := s.Q ++ [St.newQ d t] } : St).askDue (St.newQ d t), s.tl + 1, d)])) := by
      rw [e2]
      exact ask_tm hz
    have hak : Hid (∀ (g3 : NdG) (w3 : World), Nd N B g3 { s with Q := s.Q ++ [St.newQ d t] } TL w3 → g3.h d = some w.heap.size → Calls Tryz.prog 83 #[.pointer (some ⟨w.heap.size, 0, none⟩), .pointer (some ⟨N, 0, none⟩), .pointer (some ⟨B, 0, none⟩)] w3 fun e w' => e = .returned (.tuple #[]) ∧ AkP N B g3 { s with Q := s.Q ++ [St.newQ d t] } (s.await d t) TL (TL ++ [(({ s with Q := s.Q ++ [St.newQ d t] } : St).askDue (St.newQ d t), s.tl + 1, d)]) w3 w') := fun g3 w3 n3 h => by
      rw [e2]
      exact N_ask n3 ⟨hR.me, hR.seq, hR.now, hR.mem, ⟨hR.dom.mb, hR.dom.on, hR.dom.own⟩, hR.cnt, hR.nws, hR.frs, hR.tn, hR.pcl, hR.pcs, hR.pcn⟩ (by dsimp only; omega) (St.newQ d t) (List.mem_append_right _ (List.mem_singleton.2 rfl)) w.heap.size h hl htl hid
    replace HH := hide HH
    clear n1 n2 e1 e2 hL1 hm2 hg2 hf2 hz hso hR h3 n
    generalize s.await d t = s9 at hTm hak ⊢
    generalize (({ s with Q := s.Q ++ [St.newQ d t] } : St).askDue (St.newQ d t), s.tl + 1, d) = tm at hTm hak
    generalize ({ s with Q := s.Q ++ [St.newQ d t] } : St) = s3 at HH hak
    go_enter Tryz.func54, Tryz.ntmps54
    go_upto_region 4 with (fail)
    clear hp c13' c13 hlk
    go_wp2_with fail
    refine Calls.mono HH.out ?_
    rintro e w4 ⟨rfl, g4, n4, u4, t4, y4⟩
    have HA := hide (hak.out g4 w4 n4 (by rw [y4.out]; exact hh2.out))
    have u24 := u2.trans u4
    clear HH hak n4 u2 u4
    go_wp2_with fail
    refine Calls.mono HA.out ?_
    rintro e w5 ⟨rfl, g5, n5, u5, t5, _⟩
    have hfin : Hid (AwP N B g s s9 TL w w5) := ⟨_, ⟨g5, n5, u24.trans u5, t5.out.trans (t4.out.trans ht2.out)⟩, hTm.out⟩
    clear HA n5 u5 u24
    go_wp2
    go_returns
    exact ⟨rfl, hfin.out⟩
end Go.Proofs.YtakaadcpaeiccabGreat
