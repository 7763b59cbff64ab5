import Derived.Test.YtakaadcpaeiccabGreatC33
import Derived.Maps.RangeWalk
namespace Go.Proofs.YtakaadcpaeiccabGreat
open Go.RowKit Go.Maps Go.WideElems

/-! The basic calls over a whole node: what begins and ends each call. -/
theorem nodup_le : ∀ (l m : List Int), l.Nodup → (∀ a ∈ l, a ∈ m) → l.length ≤ m.length
  | [], _, _, _ => Nat.zero_le _
  | a :: l, m, hn, hm => by
    rw [List.nodup_cons] at hn
    have h1 := nodup_le l (m.erase a) hn.2 fun b hb => by
      have hne : b ≠ a := fun e => hn.1 (e ▸ hb)
      exact (List.mem_erase_of_ne hne).2 (hm b (List.mem_cons_of_mem _ hb))
    have h2 : a ∈ m := hm a List.mem_cons_self
    have h3 := List.length_erase_of_mem h2
    have h4 := List.length_pos_of_mem h2
    simp only [List.length_cons]
    omega
theorem mem_sortedF {H : Type} (l : List (Lit × DataW H)) (p : Lit × DataW H) (h : p ∈ l.foldr DataW.insert []) : p ∈ l := by
  induction l with
  | nil => simp at h
  | cons x l ih =>
    rw [List.foldr_cons] at h
    rcases ChangeMaps.mem_insert_iff.1 h with rfl | h
    · exact List.mem_cons_self
    · exact List.mem_cons_of_mem _ (ih h)
theorem MapU.size_le {W : World} {M : Nat} {f : Int → Option Int} {s : Nat} (h : MapU W M f s) (l : List Int) (hl : ∀ d, U32 d → (f d).isSome = true → d ∈ l) : s ≤ l.length := by
  obtain ⟨D, h1, h2, h3⟩ := h
  obtain ⟨es0, he0, hp⟩ := h1.tidy tu_law
  obtain ⟨es, clock, hb, F, hs, hD⟩ := h1
  rw [hD] at he0
  simp only [DataW.map.injEq] at he0
  have hkey : ∀ p ∈ es0, ∃ d, U32 d ∧ p.1 = .int .u32 d := by
    intro p hp
    rw [← he0] at hp
    have := mem_sortedF _ _ hp
    obtain ⟨x, hx, rfl⟩ := List.mem_map.1 this
    obtain ⟨y, hy⟩ := F.reads x hx
    have h5 := rd_key hy
    have h6 : rg Tryz.prog 34 (plainElem Tryz.prog 34) x = y := by
      unfold rg
      rw [hy]
      rfl
    obtain ⟨d, _, hd, hwf⟩ := keyOf_u32 Tryz.underlying34 h5
    have hb := bounds_u32 hwf
    exact ⟨d, ⟨hb.1, by have := hb.2; omega⟩, by rw [h6]; exact hd⟩
  have hlen : es0.length = s := by
    rw [← h2, hD, he0]
    rfl
  have hmem : ∀ p ∈ es0, ∀ d, U32 d → p.1 = .int .u32 d → d ∈ l := by
    intro p hp d hd e
    refine hl d hd ?_
    rw [← (h3 d hd).1, hD, he0, has_eq]
    rw [List.any_eq_true]
    exact ⟨p, hp, by rw [e]; simp [Lit.sameKey]⟩
  have hgen : ∀ es0 : List (Lit × DataW Unit), es0.Pairwise (fun p q => p.1 ≠ q.1) → (∀ p ∈ es0, ∃ d, U32 d ∧ p.1 = .int .u32 d) → ∃ ds : List Int, ds.length = es0.length ∧ ds.Nodup ∧ ∀ d ∈ ds, ∃ p ∈ es0, U32 d ∧ p.1 = .int .u32 d := by
    intro es0
    induction es0 with
    | nil => intro _ _; exact ⟨[], rfl, List.nodup_nil, fun _ h => by cases h⟩
    | cons p es0 ih =>
      intro hp hk
      rw [List.pairwise_cons] at hp
      obtain ⟨ds, e1, e2, e3⟩ := ih hp.2 fun q hq => hk q (List.mem_cons_of_mem _ hq)
      obtain ⟨d, hd, hpd⟩ := hk p List.mem_cons_self
      refine ⟨d :: ds, by simp [e1], List.nodup_cons.2 ⟨fun hmem => ?_, e2⟩, fun d' hd' => ?_⟩
      · obtain ⟨q, hq, _, hqd⟩ := e3 d hmem
        exact hp.1 q hq (by rw [hpd, hqd])
      · rcases List.mem_cons.1 hd' with rfl | h
        · exact ⟨p, List.mem_cons_self, hd, hpd⟩
        · obtain ⟨q, hq, h1⟩ := e3 d' h
          exact ⟨q, List.mem_cons_of_mem _ hq, h1⟩
  obtain ⟨ds, e1, e2, e3⟩ := hgen es0 hp hkey
  rw [← hlen, ← e1]
  exact nodup_le ds l e2 fun d hd => by
    obtain ⟨p, hp, hu, he⟩ := e3 d hd
    exact hmem p hp d hu he

/-- Numbers are held as written of destinations of the table alone; they are in their bounds. -/
structure St.Dom (s : St) : Prop where
  mb : MB s.f
  on : ∀ d, (s.f d).isSome = true → ∃ y ∈ s.A, y.dest = d
  own : U32 s.own
theorem newsP_mb {q own : Int} {f : Int → Option Int} {A : List Rt} (h : MB f) (hA : ∀ y ∈ A, y.Ok) : MB (newsP q own f A).1 := by
  have hg : ∀ (B : List Rt) (st : (Int → Option Int) × List (Bool × Int × Int)), (∀ y ∈ B, y.Ok) → MB st.1 → MB (B.foldl nwsS st).1 := by
    intro B
    induction B with
    | nil => intro st _ h; exact h
    | cons y B ih =>
      intro st hB h
      rw [List.foldl_cons]
      refine ih _ (fun z hz => hB z (List.mem_cons_of_mem _ hz)) ?_
      unfold nwsS
      split
      · intro d v hd
        dsimp only [updU] at hd
        split at hd
        · rename_i e
          have hy := hB y List.mem_cons_self
          cases hd
          exact ⟨e ▸ hy.dest, hy.seq⟩
        · exact h d v hd
      · exact h
  exact hg A _ hA h
theorem newsP_all {q own : Int} {f : Int → Option Int} {A : List Rt} : ∀ y ∈ A, ((newsP q own f A).1 y.dest).isSome = true := by
  have hk : ∀ (B : List Rt) (st : (Int → Option Int) × List (Bool × Int × Int)) (d : Int), (st.1 d).isSome = true → ((B.foldl nwsS st).1 d).isSome = true := by
    intro B
    induction B with
    | nil => intro st d h; exact h
    | cons y B ih =>
      intro st d h
      rw [List.foldl_cons]
      refine ih _ d ?_
      unfold nwsS
      split
      · dsimp only [updU]
        split
        · rfl
        · exact h
      · exact h
  have hg : ∀ (B : List Rt) (st : (Int → Option Int) × List (Bool × Int × Int)), ∀ y ∈ B, ((B.foldl nwsS st).1 y.dest).isSome = true := by
    intro B
    induction B with
    | nil => intro st y hy; cases hy
    | cons z B ih =>
      intro st y hy
      rw [List.foldl_cons]
      rcases List.mem_cons.1 hy with rfl | hy
      · refine hk B _ _ ?_
        unfold nwsS
        split
        · simp [updU]
        · rename_i hn
          simp only [isNew, Bool.or_eq_true, not_or] at hn
          have h1 := hn.1
          cases hq : st.1 y.dest with
          | none => rw [hq] at h1; simp at h1
          | some _ => rfl
      · exact ih _ y hy
  exact hg A _
theorem mxO_u32 {q own : Int} (hq : U32 q) (ho : U32 own) : U32 (mxO q own) := by
  unfold mxO
  split <;> assumption
theorem newsP_dom {q own : Int} {f : Int → Option Int} {A : List Rt} (h : ∀ d, (f d).isSome = true → ∃ y ∈ A, y.dest = d) : ∀ d, ((newsP q own f A).1 d).isSome = true → ∃ y ∈ A, y.dest = d := by
  have hg : ∀ (B : List Rt) (st : (Int → Option Int) × List (Bool × Int × Int)), (∀ y ∈ B, y ∈ A) → (∀ d, (st.1 d).isSome = true → ∃ y ∈ A, y.dest = d) → ∀ d, ((B.foldl nwsS st).1 d).isSome = true → ∃ y ∈ A, y.dest = d := by
    intro B
    induction B with
    | nil => intro st _ h; exact h
    | cons y B ih =>
      intro st hB h
      rw [List.foldl_cons]
      refine ih _ (fun z hz => hB z (List.mem_cons_of_mem _ hz)) ?_
      unfold nwsS
      split
      · intro d hd
        dsimp only [updU] at hd
        split at hd
        · rename_i e
          exact ⟨y, hB y List.mem_cons_self, e.symm⟩
        · exact h d hd
      · exact h
  exact hg A _ (fun _ h => h) h
theorem dom_write {s : St} (h : s.Dom) (hA : ∀ y ∈ s.A, y.Ok) (hq : U32 s.seq) : s.write.Dom := ⟨newsP_mb h.mb hA, newsP_dom h.on, mxO_u32 hq h.own⟩
theorem NdM.size_le {N : Nat} {x : NdV} {M : Nat} {ff : Int → Option Nat} {gg : Int → Value} {A : List Rt} {f : Int → Option Int} {sz : Nat} {W : World} (n : NdM N x M ff gg A f sz W) (h : ∀ d, (f d).isSome = true → ∃ y ∈ A, y.dest = d) : sz ≤ 8 := by
  refine Nat.le_trans (n.mo.size_le (A.map (·.dest)) fun d _ hd => ?_) (by rw [List.length_map]; exact n.tb.len)
  obtain ⟨y, hy, rfl⟩ := h d hd
  exact List.mem_map.2 ⟨y, hy, rfl⟩

/-- The table, the diary and what is done in the call have turned. -/
theorem Nd.core {N B : Nat} {g : NdG} {s s' : St} {TL : List Hp.Tm} {W W' : World} (n : Nd N B g s TL W) {x' : NdV} {ff' : Int → Option Nat} {gg' : Int → Value} {sz' : Nat} {a' : AcV}
    (h : NdM N x' g.M ff' gg' s'.A s'.f sz' W') (ha : AcM B (B + 1) a' s'.nws s'.frs s'.cms s'.drs W')
    (hf : Fx (fun k => NdIn N g.x g.M g.ff g.gg s.A k ∨ AcIn B g.a k) W W') (hin : ∀ k, NdIn N x' g.M ff' gg' s'.A k → NdIn N g.x g.M g.ff g.gg s.A k)
    (hx : x'.Mo = g.x.Mo ∧ x'.Ms = g.x.Ms ∧ x'.Msr = g.x.Msr ∧ x'.Tm = g.x.Tm ∧ x'.pc = g.x.pc) (he : NdE x' s')
    (hs : s'.mem = s.mem ∧ s'.tn = s.tn ∧ s'.Q = s.Q ∧ s'.tl = s.tl ∧ s'.pc = s.pc) (hz : sz' ≤ 1000000) (h1 : a'.now = s'.now) (h2 : a'.rep = s'.rep) :
    Nd N B { g with x := x', ff := ff', gg := gg', sz := sz', a := a' } s' TL W' ∧ Up B (Ft N g s) (Ft N { g with x := x', ff := ff', gg := gg', sz := sz', a := a' } s') W W' := by
  obtain ⟨x1, x2, x3, x4, x5⟩ := hx
  obtain ⟨t1, t2, t3, t4, t5⟩ := hs
  have hrs := n.nn.rs.kept (W' := W') fun k hk => hf.block k (n.nn.rs.lt hk) fun h => h.elim (fun h => n.nn.apart hk h) fun h => n.ac.notN n.nn (.inr hk) h
  have hR : ∀ k, RsIn x' g.h g.u g.Mt g.tv s' k → RsIn g.x g.h g.u g.Mt g.tv s k := by
    intro k hk
    unfold RsIn at hk ⊢
    rw [x2, x3, x4, x5, t3] at hk
    exact hk
  refine ⟨⟨⟨h, he, ⟨?_, ?_, ?_, hrs.hpo, hrs.pm, ?_⟩, ?_, hz⟩, ha, h1, h2⟩, .of hf (fun k o hk ho => hk.elim (fun h => .inl (.inl h)) fun h => .inr ⟨n.ac.kinds h ho, n.ac.ge h⟩) fun k hk => .inl (hk.imp (hin k) (hR k))⟩
  · dsimp only; rw [x2, t1, t2]; exact hrs.sn
  · dsimp only; rw [x3, t3]; exact hrs.sr
  · dsimp only; rw [x4, t4]; exact hrs.tm
  · dsimp only; rw [x5, t5]; exact hrs.pc
  · dsimp only; rw [x1, x2, x3]; exact n.nn.nod

theorem N_write {N B : Nat} {g : NdG} {s : St} {TL : List Hp.Tm} {w : World} (n : Nd N B g s TL w) (hd : s.Dom) (hc : 0 ≤ s.cnt ∧ s.cnt ≤ 1000000) (hw : s.nws.length ≤ 90000) :
    Calls Tryz.prog 71 #[.pointer (some ⟨N, 0, none⟩), .pointer (some ⟨B, 0, none⟩)] w fun e w' => e = .returned (.tuple #[]) ∧ NdP N B g s s.write TL w w' := by
  obtain ⟨e1, e2, e3, e4, e5, e6, e7, e8, e9⟩ := n.nn.eq
  refine (write_any N B (B + 1) g.x g.a g.M g.ff g.gg s.A s.f g.sz s.nws s.frs s.cms s.drs w n.nn.cr n.ac n.base (by rw [e8]; exact hc) n.nn.siz hw).mono ?_
  rintro e w' ⟨v7, sz', rfl, h1, _, h3, h4⟩
  have hn : newsP g.x.seq g.x.own s.f s.A = newsP s.seq s.own s.f s.A := by rw [e2, e7]
  rw [hn] at h1 h3
  have hz : sz' ≤ 8 := h1.size_le (newsP_dom hd.on)
  obtain ⟨p, q⟩ := n.core (s' := s.write) h1 h3 (h4.mono fun k h => by
    rcases h with rfl | rfl | h
    · exact .inl (.inl rfl)
    · exact .inl (.inr (.inl rfl))
    · exact .inr h) (fun k hk => hk) ⟨rfl, rfl, rfl, rfl, rfl⟩ ⟨e1, e2, e3, e4, e5, e6, by dsimp only; rw [e2, e7]; rfl, by dsimp only; rw [e8]; rfl, e9⟩ ⟨rfl, rfl, rfl, rfl, rfl⟩ (by omega) n.now n.rep
  exact ⟨rfl, _, p, q, rfl⟩

/-- What a call begins with. -/
theorem N_begin {N : Nat} {g : NdG} {s : St} {TL : List Hp.Tm} {w : World} (n : Nn N g s TL w) (now : Int) (hd : s.Dom) (hc : 0 ≤ s.cnt ∧ s.cnt ≤ 1000000) :
    Calls Tryz.prog 51 #[.pointer (some ⟨N, 0, none⟩), .int .u64 now] w fun e w' => ∃ g', e = .returned (.pointer (some ⟨w.heap.size, 0, none⟩)) ∧ Nd N w.heap.size g' (s.begin now) TL w' ∧ Up w.heap.size (Ft N g s) (Ft N g' (s.begin now)) w w' ∧ Fx (Ft N g s) w w' ∧ g'.x.T = g.x.T := by
  obtain ⟨e1, e2, e3, e4, e5, e6, e7, e8, e9⟩ := n.eq
  refine (begin_any N g.x now w n.cr (by rw [e8]; exact hc) n.siz).mono ?_
  rintro e w' ⟨gg', v7, sz', rfl, h1, _, h3, h4, h5⟩
  have hn : newsP g.x.seq g.x.own s.f (expL s.A now) = newsP s.seq s.own s.f (expL s.A now) := by rw [e2, e7]
  rw [hn] at h1 h3
  have hdom : ∀ d, ((newsP s.seq s.own s.f (expL s.A now)).1 d).isSome = true → ∃ y ∈ expL s.A now, y.dest = d := newsP_dom fun d hd' => by
    obtain ⟨y, hy, rfl⟩ := hd.on d hd'
    exact ⟨expF now y, List.mem_map.2 ⟨y, hy, rfl⟩, expF_dest now y⟩
  have hz : sz' ≤ 8 := h1.size_le hdom
  have hrs := n.rs.kept (W' := w') fun k hk => h5.block k (n.rs.lt hk) fun h => n.apart hk h
  have hF : ∀ k, Ft N { g with x := { g.x with own := mxO g.x.seq g.x.own, cnt := g.x.cnt + (newsP s.seq s.own s.f (expL s.A now)).2.length }, gg := gg', sz := sz', a := { acZ now with wrt := v7 } } (s.begin now) k → Ft N g s k := fun k hk => hk.imp (h4 k) fun h => h
  refine ⟨{ g with x := { g.x with own := mxO g.x.seq g.x.own, cnt := g.x.cnt + (newsP s.seq s.own s.f (expL s.A now)).2.length }, gg := gg', sz := sz', a := { acZ now with wrt := v7 } }, rfl, ⟨⟨h1, ⟨e1, e2, e3, e4, e5, e6, by dsimp only; rw [e2, e7]; rfl, by dsimp only; rw [e8]; rfl, e9⟩, ⟨hrs.sn, hrs.sr, hrs.tm, hrs.hpo, hrs.pm, hrs.pc⟩, n.nod, by dsimp only; omega⟩, ?_, rfl, rfl⟩, .of h5 (fun k o hk _ => .inl (.inl hk)) fun k hk => .inl (hF k hk), h5.mono fun k h => .inl h, rfl⟩
  have e10 : (s.begin now).nws = (newsP s.seq s.own s.f (expL s.A now)).2 := List.nil_append _
  rw [e10]
  exact h3
end Go.Proofs.YtakaadcpaeiccabGreat

namespace Go.Proofs.YtakaadcpaeiccabGreat
open Go.RowKit Go.Maps

/-- What the walk over a map has met so far. -/
def metM (left : Lit → Bool) (f : Int → Option Int) : Int → Option Int := fun k => if left (.int .u32 k) then none else f k
theorem metM_step {left : Lit → Bool} {x c : Int} (hl : left (.int .u32 x) = true) {f : Int → Option Int} (hf : f x = some c) (h0 : 0 ≤ c) {L : List (Bool × Int × Int)} (hL : mpL L = metM left f) : mpL (L ++ [(false, x, c)]) = metM (fun z => left z && !z.sameKey (.int .u32 x)) f := by
  rw [mpL_snoc, hL]
  funext k
  unfold stepM updU metM
  simp only [Bool.false_eq_true, if_false]
  by_cases e : k = x
  · subst e
    simp [hl, hf, Lit.sameKey]
    omega
  · simp [e, Lit.sameKey]
theorem owL_oth {L : List (Bool × Int × Int)} (x c : Int) : owL (L ++ [(false, x, c)]) = owL L := by rw [owL_snoc]; rfl
set_option maxRecDepth 100000 in
set_option maxHeartbeats 4000000 in
theorem compact_any (N : Nat) (x : NdV) (f : Int → Option Int) (sz : Nat) (w : World) (hN : NdB N x w) (hm : MapU w x.Mo f sz) (hmb : MB f) (hown : U32 x.own) (hsz : sz ≤ 40000) :
    Calls Tryz.prog 72 #[.pointer (some ⟨N, 10, none⟩)] w fun e w' => ∃ v' out, e = .returned v' ∧ IsCmp f (some x.own) out ∧ w'.ownsRow w.heap.size 82 3 v' out.length (RC out) ∧ NdB N { x with cnt := out.length } w' ∧ MapU w' x.Mo f sz ∧ Fx (fun k => k = N) w w' := by
  obtain ⟨i0, hi, hz0, hz1, hz2⟩ := info_parts info_rec
  have hNM := nd_mo hN hm
  have hMU := hide hm
  obtain ⟨D, h1, h2, h3⟩ := hm
  have h3' := (show Hid _ from h3)
  have hall0 : Hid (metM (has D) f = fun _ => none) := by
    show _ = _
    funext k
    unfold metM
    cases hk : f k with
    | none => simp
    | some c =>
      rw [(h3 k (hmb k c hk).1).1, hk]
      rfl
  clear h3
  obtain ⟨n0, n2, n3, n4, n5, n6, n7, n8, n9, n10⟩ := hN.cell
  have hbA : Below w.heap.size w (w.alloc (recBox true 0 x.own)) := (Below.refl _ _).alloc (Nat.le_refl _) _
  have hr0 : (w.alloc (recBox true 0 x.own)).ownsRow w.heap.size 82 3 (.slice (some ⟨w.heap.size, 0, none⟩) 1 1) 1 (RC [(true, 0, x.own)]) :=
    ⟨rfl, .inr ⟨w.heap.size, 1, _, rfl, Nat.le_refl _, heap_alloc_new w _, Nat.le_refl _, by decide, rfl, rfl⟩⟩
  have hN1 := hN.later hbA
  have hMU1 : Hid (MapU (w.alloc (recBox true 0 x.own)) x.Mo f sz) := hMU.out.block (hbA.block _ hMU.out.lt)
  have ho1 : (w.alloc (recBox true 0 x.own)).ownsMap Tryz.prog 34 (plainElem Tryz.prog 34) x.Mo sz D := by
    obtain ⟨es, clock, hb, Ft, hs, hD⟩ := h1
    exact ⟨es, clock, (hbA.block _ (Array.getElem?_eq_some_iff.1 hb).1).trans hb, Ft, hs, hD⟩
  have hs1 : w.heap.size ≤ (w.alloc (recBox true 0 x.own)).heap.size := hbA.size
  dsimp only [recBox] at hbA hr0 hN1 ho1 hMU1 hs1
  clear hMU
  go_enter Tryz.func72, Tryz.ntmps72
  go_upto_region 2 with (fail)
  generalize World.alloc _ _ = W1 at hbA hr0 hN1 ho1 hMU1 hs1 ⊢
  clear n0 n2 n3 n4 n5 n6 n7 n8 n9 n10
  obtain ⟨n0, n2, n3, n4, n5, n6, n7, n8, n9, n10⟩ := hN1.cell
  go_wp2_with (at_range; refine wpList_range_own _ rfl _ 115 rfl 34 34 tu_law Tryz.underlying115 _ x.Mo sz _ rfl ho1 ?_; intro w0 hrg0 hg0 hs0)
  have hb0 : Below W1.heap.size W1 w0 := ⟨hg0.os, hg0.tape, hg0.output, hg0.size, fun k hk => hg0.block k hk (by simp)⟩
  have hNa := hN1.later hb0
  have hra := step_append_kept hr0 hb0
  have hMa : Hid (MapU w0 x.Mo f sz) := hMU1.out.block (hb0.block _ hMU1.out.lt)
  have hBa := hbA.trans (hb0.mono hs1)
  have hza := hb0.size
  clear hN1 hr0 hMU1 n0 n2 n3 n4 n5 n6 n7 n8 n9 n10 h1 ho1 hb0 hg0 hbA
  go_frame
  go_loopw [3] (fun lv wr => ∃ (left : Lit → Bool) (cnt : Nat) (L : List (Bool × Int × Int)), wr.ranges Tryz.prog 34 (plainElem Tryz.prog 34) x.Mo W1.heap.size sz D left cnt ∧ wr.ownsRow w.heap.size 82 3 lv L.length (RC L) ∧ Hid (mpL L = metM left f) ∧ Hid (owL L = some x.own) ∧ RBd L ∧ L.length + cnt ≤ sz + 1 ∧ NdB N x wr ∧ Hid (MapU wr x.Mo f sz) ∧ Below w.heap.size w wr ∧ W1.heap.size ≤ wr.heap.size)
    (fun _ wr => wr.rangeLeft x.Mo W1.heap.size)
  case atStart =>
    refine ⟨_, _, [(true, 0, x.own)], hrg0, hra, ?_, ?_, ?_, ?_, hNa, hMa, hBa, hza⟩
    · rw [hall0.out]; rfl
    · show some (max 0 x.own) = _
      have := hown.1
      rw [Int.max_eq_right this]
    · intro z hz
      simp only [List.mem_singleton] at hz
      subst hz
      unfold U32 at hown
      dsimp only
      omega
    · have := h2
      simp only [List.length_singleton]
      omega
  case round =>
    clear hrg0 hra hMa hNa hBa hza hs0
    obtain ⟨left, cnt, L, hrg, hro, hmp, how, hbd, hlc, hNr, hMr, hbr, hzr⟩ := hrel
    have hNl := hNr.lt
    go_wp2_with (at_next; refine wpList_next_ranges_ii _ rfl _ rfl 34 34 .u32 .u32 tu_law Tryz.underlying34 Tryz.underlying34 x.Mo W1.heap.size sz _ _ _ rfl hrg ?_ ?_)
    · intro hc0 hl0
      have hmf : Hid (mpL L = f) := by
        show _ = _
        rw [hmp.out]
        funext k
        unfold metM
        simp [hl0]
      clear hmp hl0
      obtain ⟨ao, c, hv, hH⟩ := row_form hro
      subst hv
      have HC : Hid (Calls Tryz.prog 69 #[.slice ao L.length c] wr (CmpP L wr)) := mCompact_any ao L.length c L rfl (by omega) hbd wr hH
      have hown' := hide how
      go_wp2_with fail
      refine Calls.mono HC.out ?_
      rintro e w5 ⟨v5, out, rfl, hcmp, hlen, hrow, hb5⟩
      rw [hmf.out, how.out] at hcmp
      have hN5 := hNr.later hb5
      have hM5 : Hid (MapU w5 x.Mo f sz) := hMr.out.block (hb5.block _ hMr.out.lt)
      have hb05 := hbr.trans (hb5.mono (Nat.le_trans hs1 hzr))
      have hr5 : w5.ownsRow w.heap.size 82 3 v5 out.length (RC out) := ownsRow_base_a hrow (Nat.le_trans hs1 hzr)
      obtain ⟨a5, c5, hv5, _⟩ := row_form hrow
      subst hv5
      have hcmp := hide hcmp
      clear HC hH hro hrg hNr hMr hbr hb5 hlc hbd
      obtain ⟨n0, n2, n3, n4, n5, n6, n7, n8, n9, n10⟩ := hN5.cell
      have f12 := hN5.free 12
      have hset := hN5.setCnt (out.length : Int)
      have hgN : w5.grownBy (w5.setCell ⟨N, 12, none⟩ (.int .i64 (out.length : Int))) (some N) := grown_cellOf (grown_self _ (some N)) 12 _
      have hr6 := hr5.kept hgN (.inr (row_not hr5 hN5 (fun c e => by cases e)))
      have hM6 : Hid (MapU (w5.setCell ⟨N, 12, none⟩ (.int .i64 (out.length : Int))) x.Mo f sz) := hM5.out.block (hgN.block _ hM5.out.lt (fun e => hNM (Option.some.inj e).symm))
      have hfx : Fx (fun k => k = N) w (w5.setCell ⟨N, 12, none⟩ (.int .i64 (out.length : Int))) := grown_Fx (Fx.below hb05) hgN (fun i _ e => by cases e; rfl)
      go_wp2_with fail
      generalize World.setCell _ _ _ = w6 at hset hr6 hM6 hfx ⊢
      clear hN5 hM5 hr5 hrow hb05 hgN n0 n2 n3 n4 n5 n6 n7 n8 n9 n10 f12
      go_wp2
      go_returns
      exact ⟨_, out, rfl, hcmp.out, hr6, hset, hM6.out, hfx⟩
    · intro y c w1 cnt1 hwx hwc hlx hat hrg1 hlt hg1 hs1' hen
      have hb := bounds_u32 hwx
      have hyu : U32 y := ⟨hb.1, by have := hb.2; omega⟩
      have hc := bounds_u32 hwc
      have hcu : U32 c := ⟨hc.1, by have := hc.2; omega⟩
      have hf : f y = some c := by
        have h3x := h3'.out y hyu
        have hsome := h3x.1
        rw [has_true_of_atKey hat] at hsome
        obtain ⟨z, hz⟩ := Option.isSome_iff_exists.1 hsome.symm
        have h4 := h3x.2
        rw [hat, hz] at h4
        simp at h4
        rw [hz, h4]
      have hmp' := hide (metM_step hlx hf hcu.1 hmp.out)
      have how' := hide ((owL_oth y c).trans how.out)
      have hbd' : RBd (L ++ [(false, y, c)]) := fun z hz => by
        rcases List.mem_append.1 hz with h | h
        · exact hbd z h
        · rw [List.mem_singleton] at h
          subst h
          unfold U32 at hyu hcu
          dsimp only
          omega
      obtain ⟨es, clock, since, seen, c0, hbm, _, _, _, hbi, _⟩ := id hrg
      have hro1 := hro.kept hg1 (.inr (row_not hro hbi (fun c e => by cases e)))
      have hNlt := hN.lt
      have hN1 := hNr.kept hg1 (fun e => by have := Option.some.inj e; omega)
      have hM1 : Hid (MapU w1 x.Mo f sz) := hMr.out.block (hg1.block _ hMr.out.lt (fun e => hrg.ne (Option.some.inj e).symm))
      have hb1 : Below w.heap.size w w1 := ⟨hg1.os.trans hbr.os, hg1.tape.trans hbr.tape, hg1.output.trans hbr.output, Nat.le_trans hbr.size hg1.size, fun k hk => (hg1.block k (Nat.lt_of_lt_of_le hk hbr.size) (fun e => by have := Option.some.inj e; omega)).trans (hbr.block k hk)⟩
      have hme := (show Hid (cnt1 < wr.rangeLeft x.Mo W1.heap.size) from by show _ < _; rw [hrg.left_eq]; exact hlt)
      have hzw1 : W1.heap.size ≤ w1.heap.size := by have := hg1.size; omega
      have hln : L.length ≤ 40001 := by omega
      have hlc1 : L.length + 1 + cnt1 ≤ sz + 1 := by omega
      have hbA : Below w1.heap.size w1 (w1.alloc (recBox false y c)) := (Below.refl _ _).alloc (Nat.le_refl _) _
      have hcr := cells_rec w1 false y c
      have hkw : KeepsWalks w1 (w1.alloc (recBox false y c)) := KeepsWalks.alloc _ _
      have hM2 : Hid (MapU (w1.alloc (recBox false y c)) x.Mo f sz) := hM1.out.block (hbA.block _ hM1.out.lt)
      have hN2 := hN1.later hbA
      have hro2 := step_append_kept hro1 hbA
      have hb2 := hb1.trans (hbA.mono hb1.size)
      have hs2 : w.heap.size ≤ w1.heap.size := hb1.size
      dsimp only [recBox] at hbA hcr hkw hM2 hN2 hro2 hb2
      clear hmp how hbd hro hNr hMr hbr hzr hrg hg1 hs1' hlt hlc hat hf hbm hbi hlx hwx hwc hM1 hN1 hb1 hb hc
      go_wp2_with (at_builtin; refine wpList_append_own_at _ rfl _ _ 79 rfl w.heap.size 82 i0 (.agg #[.bool false, .int .u32 0, .int .u32 0]) 3 12 Tryz.underlying79 hi hz0 hz1 hz2 rfl (by decide) u3 L.length (RC L) rfl (hro1.alloc _) ⟨w1.heap.size, 0, none⟩ 1 1 (RC [(false, y, c)]) rfl rfl hcr (one_rec false y c) (by unfold maxLen; omega) (by omega) ?c3 ?_)
      case c3 => simp; omega
      intro v4 W4 ho4 hg4 _ _
      have hrg4 := hrg1.of_walks (hkw.trans (KeepsWalks.of_grownBy hg4 (fun j o e ho => by
        obtain ⟨cc, hcc⟩ := row_obj hro2 e
        rw [hcc] at ho
        cases ho
        rfl)))
      have hN4 := hN2.kept hg4 (row_not hro2 hN2 (fun c e => by cases e))
      have hM4 : Hid (MapU W4 x.Mo f sz) := hM2.out.kept hg4 (Ne.symm (row_mo hro2 hM2.out))
      have hb4 : Below w.heap.size w W4 := ⟨hg4.os.trans hb2.os, hg4.tape.trans hb2.tape, hg4.output.trans hb2.output, Nat.le_trans hb2.size hg4.size, fun k hk => (hg4.block k (Nat.lt_of_lt_of_le hk hb2.size) (fun e => by have := (hro2.lt k e.symm).1; omega)).trans (hb2.block k hk)⟩
      have hz4 : W1.heap.size ≤ W4.heap.size := by
        have := hg4.size
        have := hbA.size
        omega
      have hfin : Hid (W4.ownsRow w.heap.size 82 3 v4 (L ++ [(false, y, c)]).length (RC (L ++ [(false, y, c)])) ∧ (L ++ [(false, y, c)]).length + cnt1 ≤ sz + 1) := by
        show _ ∧ _
        rw [List.length_append, RC_append]
        exact ⟨ho4, by simpa using hlc1⟩
      clear hrg1 hro1 hro2 hg4 hkw hbA hcr hN2 hM2 hb2 ho4
      go_wp2
      go_roundw
      case rel => exact ⟨_, cnt1, _, hrg4, hfin.out.1, hmp', how', hbd', hfin.out.2, hN4, hM4, hb4, hz4⟩
      case measure => rw [hrg4.left_eq]; exact hme.out
end Go.Proofs.YtakaadcpaeiccabGreat

namespace Go.Proofs.YtakaadcpaeiccabGreat

/-! What the hearing of a packet leaves as it was. -/
structure Eff (j : Nat) (s s' : St) : Prop where
  me : s'.me = s.me
  now : s'.now = s.now
  f : s'.f = s.f
  own : s'.own = s.own
  cnt : s'.cnt = s.cnt
  nws : s'.nws = s.nws
  rep : s'.rep = s.rep
  lk : s'.lk = s.lk
  tl : s'.tl = s.tl
  pc : s'.pc = s.pc
  lreq : s'.lreq = s.lreq
  sub : ∀ y ∈ s.A, ∃ z ∈ s'.A, z.dest = y.dest
  seq : U32 s.seq → U32 s'.seq
  mem : (∀ e ∈ s.mem, e.til ≤ s.now + 1280) → ∀ e ∈ s'.mem, e.til ≤ s'.now + 1280
  tn : s'.tn ≤ s.tn + j
  frs : s'.frs.length ≤ s.frs.length + j
  drs : s'.drs.length ≤ s.drs.length + j
  cms : s'.cms.length ≤ s.cms.length + j
  qs : ∀ z ∈ s'.Q, z ∈ s.Q
theorem Eff.refl (s : St) : Eff 0 s s := ⟨rfl, rfl, rfl, rfl, rfl, rfl, rfl, rfl, rfl, rfl, rfl, fun y h => ⟨y, h, rfl⟩, id, id, by omega, Nat.le_refl _, Nat.le_refl _, Nat.le_refl _, fun _ h => h⟩
theorem Eff.trans {i j : Nat} {a b c : St} (p : Eff i a b) (q : Eff j b c) : Eff (i + j) a c :=
  ⟨q.me.trans p.me, q.now.trans p.now, q.f.trans p.f, q.own.trans p.own, q.cnt.trans p.cnt, q.nws.trans p.nws, q.rep.trans p.rep, q.lk.trans p.lk, q.tl.trans p.tl, q.pc.trans p.pc, q.lreq.trans p.lreq, fun y hy => by
    obtain ⟨z, hz, e⟩ := p.sub y hy
    obtain ⟨u, hu, e'⟩ := q.sub z hz
    exact ⟨u, hu, e'.trans e⟩, fun h => q.seq (p.seq h), fun h => q.mem (p.mem h), by have := p.tn; have := q.tn; omega, by have := p.frs; have := q.frs; omega, by have := p.drs; have := q.drs; omega, by have := p.cms; have := q.cms; omega, fun z h => p.qs z (q.qs z h)⟩
theorem Eff.mono {i j : Nat} {a b : St} (p : Eff i a b) (h : i ≤ j) : Eff j a b :=
  ⟨p.me, p.now, p.f, p.own, p.cnt, p.nws, p.rep, p.lk, p.tl, p.pc, p.lreq, p.sub, p.seq, p.mem, by have := p.tn; omega, by have := p.frs; omega, by have := p.drs; omega, by have := p.cms; omega, p.qs⟩
theorem eff_drop (s : St) (r : Int) : Eff 1 s (s.drop r) := ⟨rfl, rfl, rfl, rfl, rfl, rfl, rfl, rfl, rfl, rfl, rfl, fun y h => ⟨y, h, rfl⟩, id, id, by show s.tn ≤ _; omega, by show s.frs.length ≤ _; omega, by show (s.drs ++ [r]).length ≤ _; simp, by show s.cms.length ≤ _; omega, fun _ h => h⟩
theorem eff_send (s : St) (t : Int) (p : Pkt) (L : List (Int × Int)) : Eff 1 s (s.send t p L) := ⟨rfl, rfl, rfl, rfl, rfl, rfl, rfl, rfl, rfl, rfl, rfl, fun y h => ⟨y, h, rfl⟩, id, id, by show s.tn ≤ _; omega, by show (s.frs ++ [_]).length ≤ _; simp, by show s.drs.length ≤ _; omega, by show s.cms.length ≤ _; omega, fun _ h => h⟩
theorem lsF_len (t : Int) (L : List (Int × Int)) : (lsF t L).length ≤ 1 := by
  unfold lsF
  split <;> simp
theorem eff_lose (s : St) (t : Int) (L : List (Int × Int)) : Eff 1 s (s.lose t L) := ⟨rfl, rfl, rfl, rfl, rfl, rfl, rfl, rfl, rfl, rfl, rfl, fun y h => ⟨y, h, rfl⟩, id, id, by show s.tn ≤ _; omega, by show (s.frs ++ lsF t L).length ≤ _; have := lsF_len t L; simp; omega, by show s.drs.length ≤ _; omega, by show s.cms.length ≤ _; omega, fun _ h => h⟩
theorem eff_A (s : St) {A : List Rt} (h : ∀ y ∈ s.A, ∃ z ∈ A, z.dest = y.dest) : Eff 0 s { s with A := A } := ⟨rfl, rfl, rfl, rfl, rfl, rfl, rfl, rfl, rfl, rfl, rfl, h, id, id, by show s.tn ≤ _; omega, Nat.le_refl _, Nat.le_refl _, Nat.le_refl _, fun _ h => h⟩
theorem sub_modL (A : List Rt) (d : Int) (f : Rt → Rt) (hf : ∀ y, (f y).dest = y.dest) : ∀ y ∈ A, ∃ z ∈ modL A d f, z.dest = y.dest := by
  intro y hy
  refine ⟨if y.dest = d then f y else y, List.mem_map.2 ⟨y, hy, rfl⟩, ?_⟩
  split
  · exact hf y
  · rfl
theorem sub_useL (A : List Rt) (d e : Int) : ∀ y ∈ A, ∃ z ∈ useL A d e, z.dest = y.dest := sub_modL A d _ (useF_dest e)
theorem sub_befL (A : List Rt) (d n : Int) : ∀ y ∈ A, ∃ z ∈ befL A d n, z.dest = y.dest := sub_modL A d _ (befF_dest n)
theorem sub_loseL (A : List Rt) (fr d q : Int) : ∀ y ∈ A, ∃ z ∈ loseL A fr d q, z.dest = y.dest := sub_modL A d _ (loseF_dest fr q)
theorem sub_updL (me : Int) (A : List Rt) (d q h n e : Int) : ∀ y ∈ A, ∃ z ∈ (updL me A d q h n e).1, z.dest = y.dest := by
  unfold updL
  split
  · exact fun y hy => ⟨y, hy, rfl⟩
  · split
    · split
      · exact sub_modL A d _ fun y => rfl
      · exact fun y hy => ⟨y, hy, rfl⟩
    · split
      · exact fun y hy => ⟨y, hy, rfl⟩
      · intro y hy
        refine ⟨y, ?_, rfl⟩
        unfold insL
        rw [← List.take_append_drop (pos A (newR d q h n e).dest) A] at hy
        rcases List.mem_append.1 hy with h | h
        · exact List.mem_append.2 (.inl h)
        · exact List.mem_append.2 (.inr (List.mem_cons_of_mem _ h))
theorem sub_trans {A B C : List Rt} (h : ∀ y ∈ A, ∃ z ∈ B, z.dest = y.dest) (k : ∀ y ∈ B, ∃ z ∈ C, z.dest = y.dest) : ∀ y ∈ A, ∃ z ∈ C, z.dest = y.dest := fun y hy => by
  obtain ⟨z, hz, e⟩ := h y hy
  obtain ⟨u, hu, e'⟩ := k z hz
  exact ⟨u, hu, e'.trans e⟩
theorem eff_Q (s : St) (Q : List Sr) (hQ : ∀ z ∈ Q, z ∈ s.Q) : Eff 0 s { s with Q := Q } := ⟨rfl, rfl, rfl, rfl, rfl, rfl, rfl, rfl, rfl, rfl, rfl, fun y h => ⟨y, h, rfl⟩, id, id, by show s.tn ≤ _; omega, Nat.le_refl _, Nat.le_refl _, Nat.le_refl _, hQ⟩
theorem eff_ldat (s : St) (l : Int) : Eff 0 s { s with ldat := l } := ⟨rfl, rfl, rfl, rfl, rfl, rfl, rfl, rfl, rfl, rfl, rfl, fun y h => ⟨y, h, rfl⟩, id, id, by show s.tn ≤ _; omega, Nat.le_refl _, Nat.le_refl _, Nat.le_refl _, fun _ h => h⟩
theorem eff_sil (s : St) (l : Int) : Eff 0 s { s with sil := l } := ⟨rfl, rfl, rfl, rfl, rfl, rfl, rfl, rfl, rfl, rfl, rfl, fun y h => ⟨y, h, rfl⟩, id, id, by show s.tn ≤ _; omega, Nat.le_refl _, Nat.le_refl _, Nat.le_refl _, fun _ h => h⟩
theorem eff_seq (s : St) {q : Int} (h : U32 s.seq → U32 q) : Eff 0 s { s with seq := q } := ⟨rfl, rfl, rfl, rfl, rfl, rfl, rfl, rfl, rfl, rfl, rfl, fun y h => ⟨y, h, rfl⟩, h, id, by show s.tn ≤ _; omega, Nat.le_refl _, Nat.le_refl _, Nat.le_refl _, fun _ h => h⟩
theorem eff_cms (s : St) (x : Int × ByteArray) : Eff 1 s { s with cms := s.cms ++ [x] } := ⟨rfl, rfl, rfl, rfl, rfl, rfl, rfl, rfl, rfl, rfl, rfl, fun y h => ⟨y, h, rfl⟩, id, id, by show s.tn ≤ _; omega, by show s.frs.length ≤ _; omega, by show s.drs.length ≤ _; omega, by show (s.cms ++ [x]).length ≤ _; simp, fun _ h => h⟩
theorem mem_seenAdd {E : List Mm} {q : Int × Int} {til trn : Int} {e : Mm} (h : e ∈ seenAdd E q til trn) : e ∈ E ∨ e.til = til := by
  have h1 : e ∈ seenPut E q til trn := by
    unfold seenAdd at h
    split at h
    · exact List.mem_of_mem_tail h
    · exact h
  unfold seenPut at h1
  rcases List.mem_append.1 h1 with h | h
  · exact .inl (List.mem_filter.1 h).1
  · rw [List.mem_singleton] at h
    subst h
    exact .inr rfl
theorem eff_seen (s : St) (q : Int × Int) (trn : Int) : Eff 1 s { s with mem := seenAdd s.mem q (s.now + 1280) trn, tn := s.tn + 1 } := ⟨rfl, rfl, rfl, rfl, rfl, rfl, rfl, rfl, rfl, rfl, rfl, fun y h => ⟨y, h, rfl⟩, id, fun h e he => by
  rcases mem_seenAdd he with h1 | h1
  · exact h e h1
  · show e.til ≤ s.now + 1280
    omega, by show s.tn + 1 ≤ s.tn + ((1 : Nat) : Int); omega, by show s.frs.length ≤ _; omega, by show s.drs.length ≤ _; omega, by show s.cms.length ≤ _; omega, fun _ h => h⟩
theorem eff_answer (s : St) (p : Pkt) : Eff 1 s (s.answer p) := by
  unfold St.answer
  split
  · exact eff_send _ _ _ _
  · exact eff_drop _ _
theorem eff_answerSelf (s : St) (p : Pkt) (hp : U32 p.dseq) : Eff 1 s (s.answerSelf p) :=
  (eff_seq s (q := max s.seq p.dseq) fun h => by unfold U32 at *; omega).trans (j := 1) (eff_answer _ _)
theorem eff_answerOther (s : St) (p : Pkt) (r : Rt) : Eff 1 s (s.answerOther p r) := by
  refine (eff_A s (A := befL (if (findL s.A p.frm s.now).2 then befL s.A p.dest (findL s.A p.frm s.now).1.next else s.A) p.frm r.next) ?_).trans (j := 1) (eff_answer _ _)
  split
  · exact sub_trans (sub_befL _ _ _) (sub_befL _ _ _)
  · exact sub_befL _ _ _
theorem eff_asked (s : St) (p : Pkt) (hp : U32 p.dseq) : Eff 1 s (s.asked p) := by
  unfold St.asked
  split
  · exact eff_answerSelf s p hp
  · split
    · exact eff_answerOther s p _
    · split
      · exact eff_drop _ _
      · exact eff_send _ _ _ _
theorem eff_learn (s : St) (fr : Int) (p : Pkt) (hp : U32 p.dseq) : Eff 1 s (s.learn fr p) := by
  unfold St.learn
  split
  · exact (eff_A s (sub_updL _ _ _ _ _ _ _)).trans (j := 1) (eff_drop _ _)
  · split
    · exact (eff_A s (sub_trans (sub_updL _ _ _ _ _ _ _) (sub_useL _ _ _))).trans (j := 1) (eff_asked _ p hp)
    · exact (eff_A s (sub_updL _ _ _ _ _ _ _)).trans (j := 1) (eff_asked _ p hp)
theorem eff_hearRequest (s : St) (fr : Int) (p : Pkt) (hp : U32 p.dseq) : Eff 2 s (s.hearRequest fr p) := by
  unfold St.hearRequest
  split
  · exact (eff_drop _ _).mono (by omega)
  · exact (eff_seen s _ _).trans (j := 1) (eff_learn _ fr p hp)
theorem eff_sendText (s : St) (d : Int) (t : ByteArray) : Eff 1 s (s.sendText d t) := by
  unfold St.sendText
  split
  · have h1 : Eff 0 s { s with ldat := (s.ldat + 1) % 4294967296, A := useL s.A d (s.now + 3000) } := (eff_ldat s ((s.ldat + 1) % 4294967296)).trans (j := 0) (eff_A { s with ldat := (s.ldat + 1) % 4294967296 } (A := useL s.A d (s.now + 3000)) (sub_useL _ _ _))
    exact h1.trans (j := 1) (eff_send { s with ldat := (s.ldat + 1) % 4294967296, A := useL s.A d (s.now + 3000) } _ _ _)
  · exact (Eff.refl s).mono (by omega)
theorem eff_texts (s : St) (d : Int) (L : List ByteArray) : Eff L.length s (L.foldl (fun s t => s.sendText d t) s) := by
  induction L generalizing s with
  | nil => exact Eff.refl s
  | cons t L ih =>
    rw [List.foldl_cons]
    exact ((eff_sendText s d t).trans (ih _)).mono (by simp; omega)
theorem texts_Q (s : St) (d : Int) (L : List ByteArray) : (L.foldl (fun s t => s.sendText d t) s).Q = s.Q := by
  induction L generalizing s with
  | nil => rfl
  | cons t L ih =>
    rw [List.foldl_cons, ih]
    unfold St.sendText
    split <;> rfl
theorem eff_sendAll (s : St) (d : Int) (h : ∀ q ∈ s.Q, q.txt.length ≤ 4) : Eff 4 s (s.sendAll d) := by
  unfold St.sendAll
  split
  · exact (Eff.refl s).mono (by omega)
  · rename_i q hq
    split
    · have h1 := h q (srOf_some hq).1
      have h2 := ((eff_texts s d q.txt).trans (j := 0) (eff_Q _ (s.Q.filter fun z => !decide (z.dest = d)) fun z hz => by rw [texts_Q]; exact (List.mem_filter.1 hz).1)).mono (j := 4) (by omega)
      exact h2
    · exact (Eff.refl s).mono (by omega)
theorem eff_replyOn (s : St) (fr : Int) (p : Pkt) : Eff 1 s (s.replyOn fr p) := by
  unfold St.replyOn
  split
  · exact (eff_A s (sub_trans (sub_trans (sub_befL _ _ _) (sub_befL _ _ _)) (sub_useL _ _ _))).trans (j := 1) (eff_send _ _ _ _)
  · exact eff_drop _ _
theorem eff_hearReply (s : St) (fr : Int) (p : Pkt) (h : ∀ q ∈ s.Q, q.txt.length ≤ 4) : Eff 5 s (s.hearReply fr p) := by
  unfold St.hearReply
  split
  · exact (eff_drop _ _).mono (by omega)
  · have h1 := eff_A s (sub_updL s.me s.A p.dest p.dseq (St.far p.hops) fr (s.now + p.life))
    dsimp only
    split
    · exact (h1.trans (j := 1) (eff_drop _ _)).mono (by omega)
    · split
      · split
        · exact (h1.trans (j := 4) (eff_sendAll { s with A := (updL s.me s.A p.dest p.dseq (St.far p.hops) fr (s.now + p.life)).1 } p.dest h)).trans (j := 1) (eff_drop _ _)
        · exact (h1.trans (j := 4) (eff_sendAll { s with A := (updL s.me s.A p.dest p.dseq (St.far p.hops) fr (s.now + p.life)).1 } p.dest h)).mono (by omega)
      · split
        · exact (h1.trans (j := 1) (eff_drop _ _)).mono (by omega)
        · exact (h1.trans (j := 1) (eff_replyOn _ _ _)).mono (by omega)
theorem sub_lsS (fr : Int) (L : List (Int × Int)) (z : List Rt × Bool × List (Int × Int)) : ∀ y ∈ z.1, ∃ u ∈ (L.foldl (St.lsS fr) z).1, u.dest = y.dest := by
  induction L generalizing z with
  | nil => exact fun y hy => ⟨y, hy, rfl⟩
  | cons l L ih =>
    rw [List.foldl_cons]
    refine sub_trans ?_ (ih _)
    unfold St.lsS
    split
    · exact sub_loseL _ _ _ _
    · exact fun y hy => ⟨y, hy, rfl⟩
theorem eff_hearLose (s : St) (fr : Int) (L : List (Int × Int)) : Eff 2 s (s.hearLose fr L) := by
  unfold St.hearLose
  dsimp only
  have h1 := eff_A s (sub_lsS fr L (s.A, false, []))
  split
  · exact (h1.trans (j := 1) (eff_lose _ _ _)).mono (by omega)
  · exact (h1.trans (j := 2) ((eff_drop _ _).trans (j := 1) (eff_lose _ _ _))).mono (by omega)
theorem eff_loseOne (s : St) (t d : Int) : Eff 1 s (s.loseOne t d) := eff_lose s t _
theorem eff_hearData (s : St) (fr : Int) (p : Pkt) : Eff 2 s (s.hearData fr p) := by
  unfold St.hearData
  split
  · exact (eff_cms s _).mono (by omega)
  · split
    · exact (eff_drop _ _).mono (by omega)
    · split
      · have h1 := (eff_A s (A := useL (useL s.A p.dest (s.now + 3000)) p.frm (s.now + 3000)) (sub_trans (sub_useL _ _ _) (sub_useL _ _ _))).trans (j := 1) (eff_send { s with A := useL (useL s.A p.dest (s.now + 3000)) p.frm (s.now + 3000) } (findL s.A p.dest s.now).1.next { p with ttl := p.ttl - 1 } [])
        exact h1.mono (by omega)
      · have h1 := (eff_drop s 3).trans (j := 0) (eff_A (s.drop 3) (A := modL s.A p.dest St.growF) (sub_modL _ _ _ fun _ => rfl))
        exact h1.trans (j := 1) (eff_loseOne _ _ _)
theorem eff_hearSilent (s : St) (fr : Int) (p : Pkt) : Eff 2 s (s.hearSilent fr p) := by
  unfold St.hearSilent
  split
  · exact (((eff_drop s 8).trans (j := 1) (eff_loseOne _ _ _)).trans (j := 0) (eff_sil _ _)).mono (by omega)
  · exact (eff_drop _ _).mono (by omega)
theorem eff_hearPkt (s : St) (fr : Int) (p : Pkt) (L : List (Int × Int)) (hp : U32 p.dseq) (h : ∀ q ∈ s.Q, q.txt.length ≤ 4) : Eff 5 s (s.hearPkt fr p L) := by
  unfold St.hearPkt
  split
  · exact (eff_hearSilent s fr p).mono (by omega)
  · split
    · exact (eff_hearRequest s fr p hp).mono (by omega)
    · split
      · exact eff_hearReply s fr p h
      · split
        · exact (eff_hearLose s fr L).mono (by omega)
        · exact (eff_hearData s fr p).mono (by omega)
end Go.Proofs.YtakaadcpaeiccabGreat
