import Derived.Test.YtakaadcpaeiccabGreatC31
import Derived.Deep.RegionWith
import Derived.Test.YtakaadcpaeiccabGreatC23
namespace Go.Proofs.YtakaadcpaeiccabGreat
open Go.RowKit Go.Maps

@[reducible] def lsBox (d q : Int) : Obj := .cells #[.int .u32 d, .int .u32 q] 237
theorem ls_offA (c : Array Value) : offA (.cells c 237 (0, 0)) := ⟨fun c e => (by cases e), fun c e => (by cases e), fun c e => (by cases e), fun c e => (by cases e), fun c e => (by cases e)⟩
theorem loseL_no {A : List Rt} (hA : Asc A) {fr d q : Int} (h : loseB A fr d = false) : loseL A fr d q = A := by
  unfold loseL
  refine modL_id hA fun y hy => ?_
  unfold loseB at h
  rw [hy] at h
  simp only [Option.any_some] at h
  unfold loseF
  rw [h]
  rfl
/-- 'Lose', and that nothing but the table turns. -/
theorem N_losel2 {N B : Nat} {g : NdG} {s : St} {TL : List Hp.Tm} {w : World} (n : Nd N B g s TL w) (fr d q : Int) (hd : U32 d) (hq : U32 q) :
    Calls Tryz.prog 168 #[.pointer (some ⟨g.x.T, 0, none⟩), .int .u32 fr, .agg #[.int .u32 d, .int .u32 q]] w fun r w' => r = .returned (.bool (loseB s.A fr d)) ∧ NdP N B g s { s with A := loseL s.A fr d q } TL w w' ∧ Fx (Ft N g s) w w' := by
  refine (Lose_any s.me g.x.T _ s.A fr d q hd hq w n.tab).mono ?_
  rintro r w' ⟨rfl, h1, h2⟩
  exact ⟨rfl, n.tableP (h1.ext _ _) h2, h2.mono fun k hk => .inl (.inr (.inr hk))⟩
/-- A list of losses that lies apart from a node. -/
def LsApart (N : Nat) (g : NdG) (s : St) (ao : Option Addr) : Prop := ∀ b, ao = some b → ¬ Ft N g s b.block
theorem HoldsA.fx {S : Nat → Prop} {W W' : World} {ao : Option Addr} {L : List (Int × Int)} (h : HoldsA W ao L) (hf : Fx S W W') (ha : 0 < L.length → ∀ b, ao = some b → ¬ S b.block) : HoldsA W' ao L := by
  intro j hj
  obtain ⟨lb, lo, d, s, h1, h2, h3, h4, h5, h6, h7, h8, h9⟩ := h j hj
  have hk := hf.block lb h2 (ha (Nat.lt_of_le_of_lt (Nat.zero_le _) hj) _ h1)
  refine ⟨lb, lo, d, s, h1, Nat.lt_of_lt_of_le h2 hf.size, h3, h4, h5, h6, h7, ?_, ?_⟩
  · unfold World.cell? at h8 ⊢
    rw [show W'.heap[(⟨lb, lo + j * 2, none⟩ : Addr).block]? = W.heap[lb]? from hk]
    exact h8
  · unfold World.cell? at h9 ⊢
    rw [show W'.heap[(⟨lb, lo + j * 2 + 1, none⟩ : Addr).block]? = W.heap[lb]? from hk]
    exact h9
/-- What holds while 'hearLose' goes along its losses: the table A, what is told on tl. -/
structure LsI (N B : Nat) (g : NdG) (s : St) (TL : List Hp.Tm) (ao : Option Addr) (L : List (Int × Int)) (w : World) (k : Nat) (A : List Rt) (tl : List (Int × Int)) (st : St) (g' : NdG) (lv : Value) (W : World) : Prop where
  hst : Hid (({ s with A := A } : St) = st)
  nd : Nd N B g' st TL W
  up : Up B (Ft N g s) (Ft N g' st) w W
  tt : Hid (g'.x.T = g.x.T)
  row : W.ownsRow w.heap.size 237 2 lv tl.length (LsC tl)
  lst : HoldsA W ao L
  nf : 0 < L.length → LsApart N g' st ao
  old : 0 < L.length → ∀ b, ao = some b → b.block < w.heap.size
  nr : ∀ k', lv.ownBlock = some k' → ¬ Ft N g' st k'
  len : tl.length ≤ k
  ok : ∀ x ∈ tl, 0 ≤ x.1 ∧ x.1 < 4294967296 ∧ 0 ≤ x.2 ∧ x.2 < 4294967296
theorem Up.row {B base e size n : Nat} {F F' : Nat → Prop} {v : Value} {cs : List Value} {a b : World} (u : Up B F F' a b) (h : a.ownsRow base e size v n cs) (hn : ∀ k, v.ownBlock = some k → ¬ F k) (hA : ∀ c : Array Value, offA (.cells c e (0, 0))) : b.ownsRow base e size v n cs ∧ ∀ k, v.ownBlock = some k → ¬ F' k :=
  ⟨row_at h fun k hk => by
    obtain ⟨c, hc⟩ := row_obj h hk
    rw [hc]
    exact u.block k _ hc (hn k hk) (.inl (hA c)), fun k hk => by
    obtain ⟨c, hc⟩ := row_obj h hk
    exact (u.keep hc (hn k hk) (hA c)).2⟩
theorem LsI.later {N B : Nat} {g : NdG} {s : St} {TL : List Hp.Tm} {ao : Option Addr} {L : List (Int × Int)} {w : World} {k : Nat} {A : List Rt} {tl : List (Int × Int)} {st : St} {g' : NdG} {lv : Value} {W W' : World} (h : LsI N B g s TL ao L w k A tl st g' lv W) (hb : Below W.heap.size W W') : LsI N B g s TL ao L w k A tl st g' lv W' :=
  ⟨h.hst, h.nd.later hb, h.up.trans (.below hb), h.tt, step_append_kept h.row hb, h.lst.below hb, h.nf, h.old, h.nr, h.len, h.ok⟩
theorem LsI.up1 {N B : Nat} {g : NdG} {s : St} {TL : List Hp.Tm} {ao : Option Addr} {L : List (Int × Int)} {w : World} {k : Nat} {A : List Rt} {tl : List (Int × Int)} {st : St} {g' : NdG} {lv : Value} {W : World} (h : LsI N B g s TL ao L w k A tl st g' lv W) : LsI N B g s TL ao L w (k + 1) A tl st g' lv W :=
  ⟨h.hst, h.nd, h.up, h.tt, h.row, h.lst, h.nf, h.old, h.nr, Nat.le_succ_of_le h.len, h.ok⟩
/-- One loss. -/
theorem LsI.lose {N B : Nat} {g : NdG} {s : St} {TL : List Hp.Tm} {ao : Option Addr} {L : List (Int × Int)} {w : World} {k : Nat} {A : List Rt} {tl : List (Int × Int)} {st : St} {g' : NdG} {lv : Value} {W : World} (h : LsI N B g s TL ao L w k A tl st g' lv W) (fr d q : Int) (hd : U32 d) (hq : U32 q) :
    Calls Tryz.prog 168 #[.pointer (some ⟨g'.x.T, 0, none⟩), .int .u32 fr, .agg #[.int .u32 d, .int .u32 q]] W fun r w' => r = .returned (.bool (loseB A fr d)) ∧ (∃ st2 g2, LsI N B g s TL ao L w k (loseL A fr d q) tl st2 g2 lv w') ∧ Fx (Ft N g' st) W w' := by
  have hA : st.A = A := by rw [← h.hst.out]
  refine (N_losel2 h.nd fr d q hd hq).mono ?_
  rintro r w' ⟨rfl, ⟨g2, n2, u2, t2⟩, hf⟩
  rw [hA] at n2 u2 ⊢
  refine ⟨rfl, ⟨_, g2, ?_, n2, h.up.trans u2, t2.trans h.tt.out, ?_, h.lst.fx hf h.nf, ?_, h.old, ?_, h.len, h.ok⟩, hf⟩
  · show _ = _
    rw [← h.hst.out]
  · exact (u2.row h.row h.nr ls_offA).1
  · intro hl b hb hk
    rcases u2.sub _ hk with h1 | ⟨h1, _⟩
    · exact h.nf hl b hb h1
    · have h2 := h.old hl b hb
      have h3 := h.up.size
      omega
  · exact (u2.row h.row h.nr ls_offA).2
/-- One loss told on. -/
theorem LsI.append {N B : Nat} {g : NdG} {s : St} {TL : List Hp.Tm} {ao : Option Addr} {L : List (Int × Int)} {w : World} {k : Nat} {A : List Rt} {tl : List (Int × Int)} {st : St} {g' : NdG} {lv : Value} {W : World} (h : LsI N B g s TL ao L w k A tl st g' lv W) (d q : Int) {v7 : Value} {w7 : World} (ho : w7.ownsRow w.heap.size 237 2 v7 (tl.length + 1) (LsC tl ++ LsC [(d, q)])) (hg : W.grownBy w7 lv.ownBlock) (hv : v7.ownBlock = lv.ownBlock ∨ v7.ownBlock = some W.heap.size) (hd : U32 d) (hq : U32 q) : LsI N B g s TL ao L w (k + 1) A (tl ++ [(d, q)]) st g' v7 w7 := by
  have hge : ∀ j, lv.ownBlock = some j → w.heap.size ≤ j := fun j hj => (h.row.lt j hj).1
  have hs := h.up.size
  refine ⟨h.hst, ⟨h.nd.nn.kept fun j hj => hg.block j (h.nd.nn.lt hj) fun e => h.nr j e.symm hj, h.nd.ac.kept fun j hj => hg.block j (h.nd.ac.lt hj) fun e => ?_, h.nd.now, h.nd.rep⟩, ⟨fun j hj => ?_, hg.os.trans h.up.os, hg.tape.trans h.up.tape, hg.output.trans h.up.output, Nat.le_trans hs hg.size, fun j o hj hn hA => ?_⟩, h.tt, ?_, ?_, h.nf, h.old, ?_, ?_, ?_⟩
  · obtain ⟨c, hc⟩ := row_obj h.row e.symm
    exact h.nd.ac.not hc (ls_offA c) hj
  · rcases h.up.sub j hj with h1 | ⟨h1, h2⟩
    · exact .inl h1
    · exact .inr ⟨h1, Nat.lt_of_lt_of_le h2 hg.size⟩
  · have h1 := h.up.block j o hj hn hA
    exact (hg.block j (some_lt h1) fun e => by have := hge j e.symm; have := some_lt hj; omega).trans h1
  · rw [LsC_append, List.length_append]
    exact ho
  · exact h.lst.fx (Fx.grown (S := fun j => w.heap.size ≤ j) hg hge) fun hl b hb => by have := h.old hl b hb; omega
  · intro j hj
    rcases hv with h1 | h1
    · exact h.nr j (h1.symm.trans hj)
    · rw [h1] at hj
      cases hj
      exact h.nd.new (Nat.le_refl _)
  · have := h.len
    simp
    omega
  · intro x hx
    rcases List.mem_append.1 hx with h1 | h1
    · exact h.ok x h1
    · cases List.mem_singleton.1 h1
      unfold U32 at hd hq
      exact ⟨hd.1, by have := hd.2; omega, hq.1, by have := hq.2; omega⟩
theorem told_list {W : World} {base : Nat} {lv : Value} {tl : List (Int × Int)} (h : W.ownsRow base 237 2 lv tl.length (LsC tl)) (ok : ∀ x ∈ tl, 0 ≤ x.1 ∧ x.1 < 4294967296 ∧ 0 ≤ x.2 ∧ x.2 < 4294967296) : ∃ ao c, lv = .slice ao tl.length c ∧ HoldsA W ao tl := by
  rcases h.2 with ⟨rfl, h0⟩ | ⟨g, cap, cur, rfl, _⟩
  · exact ⟨none, 0, by rw [h0], fun j hj => by omega⟩
  · exact ⟨some ⟨g, 0, none⟩, cap, rfl, HoldsA.ofOwn h ok⟩
/-- What the walk reads of a node and of a loss. -/
@[reducible] def LB (N T C : Nat) (d q : Int) (W0 W : World) : Prop := (W.cell? ⟨N, 7, none⟩ = some (.pointer (some ⟨T, 0, none⟩)) ∧ W.cell? ⟨C, 0, none⟩ = some (.int .u32 d) ∧ W.cell? ⟨C, 1, none⟩ = some (.int .u32 q)) ∧ Below W0.heap.size W0 W
theorem LB.of {N B C : Nat} {g : NdG} {s : St} {TL : List Hp.Tm} {d q : Int} {W0 W : World} (n : Nd N B g s TL W0) (hC : W0.heap[C]? = some (lsBox d q)) (hb : Below W0.heap.size W0 W) : LB N g.x.T C d q W0 W := by
  have h := (hb.block C (some_lt hC)).trans hC
  exact ⟨⟨(n.later hb).nn.cr.nd.cell.2.2.2.2.1, cell_of_row W C 0 _ _ _ h, cell_of_row W C 1 _ _ _ h⟩, hb⟩

@[reducible] def LHc (N T C : Nat) (d q : Int) (W : World) : Prop := W.cell? ⟨N, 7, none⟩ = some (.pointer (some ⟨T, 0, none⟩)) ∧ W.cell? ⟨C, 0, none⟩ = some (.int .u32 d) ∧ W.cell? ⟨C, 1, none⟩ = some (.int .u32 q)
theorem meas_next {n k : Nat} (h : k < n) : n - (intOf (.int .i64 ((k : Int) + 1))).toNat < n - (intOf (.int .i64 (k : Int))).toNat := by
  show n - ((k : Int) + 1).toNat < n - (k : Int).toNat
  omega

set_option maxRecDepth 100000 in
set_option maxHeartbeats 8000000 in
theorem N_hearLose {N B : Nat} {g : NdG} {s : St} {TL : List Hp.Tm} {w : World} (n : Nd N B g s TL w) (fr : Int) (_hfrm : U32 fr) (p : Pkt) (hp : p.Wf) (L : List (Int × Int)) (hL : HoldsL w p L) (hap : LsApart N g s p.la) (hfl : s.frs.length ≤ 1000000) (hdl : s.drs.length ≤ 1000000) :
    Calls Tryz.prog 132 #[.pointer (some ⟨N, 0, none⟩), .pointer (some ⟨B, 0, none⟩), .int .u32 fr, p.val] w fun e w' => e = .returned (.tuple #[]) ∧ NdP N B g s (s.hearLose fr L) TL w w' := by
  obtain ⟨i0, hi, hz0, hz1, hz2⟩ := info_parts info_ls
  have hb0 : Below w.heap.size w (w.alloc p.box) := (Below.refl _ _).alloc (Nat.le_refl _) _
  have hP0 := PB.new p w
  have n0 := n.later hb0
  obtain ⟨s2, hans⟩ : ∃ s2, s.hearLose fr L = s2 := ⟨_, rfl⟩
  rw [hans]
  replace hans := hide hans
  have hln : L.length = p.ln := hL.1
  have hln1 := hp.ln1
  have hI0 : LsI N B g s TL p.la L w 0 s.A [] s g (.slice none 0 0) (w.alloc p.box) :=
    ⟨rfl, n0, .below hb0, rfl, ⟨rfl, .inl ⟨rfl, rfl⟩⟩, (show HoldsA w p.la L from hL.2).below hb0, fun _ => hap, fun hl b hb => (by obtain ⟨_, _, _, _, e1, e2, _⟩ := hL.2 0 hl; rw [hb] at e1; cases e1; exact e2), fun k hk => (by cases hk), Nat.le_refl _, fun x hx => (by cases hx)⟩
  dsimp only [Pkt.box] at hb0 n0 hI0
  unfold PB at hP0
  dsimp only [Pkt.box] at hP0
  go_enter Tryz.func132, Tryz.ntmps132
  go_upto_region 3 with (fail)
  generalize World.alloc _ _ = W1 at hb0 hP0 n0 hI0 ⊢
  obtain ⟨p0, p1, p2, p3, p4, p5, p6, p7, p8, p9, p10, p11⟩ := PB.cell hP0
  replace hln := hide hln
  go_wp2_with fail
  clear p0 p1 p2 p3 p4 p5 p6 p7 p8 p9 p10 p11 n0
  go_loopw [8, 9, 16] (fun ev lv i wr => ∃ (k : Nat) (z : List Rt × Bool × List (Int × Int)) (st : St) (g' : NdG), k ≤ p.ln ∧ i = .int .i64 k ∧ ev = .bool z.2.1 ∧ Hid (z = (L.take k).foldl (St.lsS fr) (s.A, false, [])) ∧ LsI N B g s TL p.la L w k z.1 z.2.2 st g' lv wr) (fun _ _ i _ => p.ln - (intOf i).toNat)
  case atStart => exact ⟨0, (s.A, false, []), s, g, Nat.zero_le _, rfl, rfl, rfl, hI0⟩
  case round =>
    clear hI0
    obtain ⟨k, z, st, g', hk, rfl, rfl, hz, hI⟩ := hrel
    by_cases hlt : k < p.ln
    · have hkL : k < L.length := by rw [hln.out]; exact hlt
      generalize p.la = la at hI ⊢
      obtain ⟨lb, lo, d, q, rfl, hlb, hds, hd0, hd1, hq0, hq1, hcd, hcq⟩ := hI.lst k hkL
      have hb1 : Below wr.heap.size wr (wr.alloc (.cells #[.int .u32 d, .int .u32 q] 237)) := (Below.refl _ _).alloc (Nat.le_refl _) _
      have hI1 := hI.later hb1
      have hC1 := heap_alloc_new wr (.cells #[.int .u32 d, .int .u32 q] 237)
      have hCn := hI.nd.new (k := wr.heap.size) (Nat.le_refl _)
      replace hds := hide hds
      replace hkL := hide hkL
      replace hI := hide hI
      go_wp2_with fail
      generalize World.alloc _ _ = W1 at hb1 hI1 hC1 ⊢
      generalize hCC : wr.heap.size = C at hC1 hCn ⊢
      replace hCC := hide hCC
      obtain ⟨us, hus⟩ : ∃ b, usedL st.A d = b := ⟨_, rfl⟩
      obtain ⟨bl, hbl⟩ : ∃ b, loseB z.1 fr d = b := ⟨_, rfl⟩
      have hd : U32 d := ⟨hd0, by omega⟩
      have hq : U32 q := ⟨hq0, by omega⟩
      have hS : LB N g'.x.T C d q W1 W1.drew := LB.of hI1.nd hC1 (Below.refl _ _).drew
      have hU : Hid (∀ W5, Below W1.heap.size W1 W5 → Calls Tryz.prog 167 #[.pointer (some ⟨g'.x.T, 0, none⟩), .int .u32 d] W5 fun e w' => e = .returned (.bool us) ∧ w' = W5) := fun W5 h5 => by rw [← hus]; exact N_used (hI1.nd.later h5) d hd
      have hus := hide hus
      have hI2 := hI1.later ((Below.refl _ _).drew : Below W1.heap.size W1 W1.drew)
      have hC2 : W1.drew.heap[C]? = some (lsBox d q) := hC1
      clear hcd hcq
      go_region_held3 (LB N g'.x.T C d q W1) (first | with_reducible exact hS | with_reducible assumption) ((go_at_call 167; refine (hU.out _ (And.right (by assumption))).mono ?_; rintro e w2 ⟨rfl, rfl⟩))
      rename_i hHx
      clear hHx hS hU hI1 hC1 hb1
      generalize World.drew _ = W2 at hI2 hC2 ⊢
      have hC2n : ¬ Ft N g' st C := hCn
      have hS2 : LHc N g'.x.T C d q W2.drew := (LB.of hI2.nd hC2 (Below.refl _ _).drew).1
      have hW : Hid (Calls Tryz.prog 168 #[.pointer (some ⟨g'.x.T, 0, none⟩), .int .u32 fr, .agg #[.int .u32 d, .int .u32 q]] W2.drew fun r w' => r = .returned (.bool bl) ∧ (∃ st2 g2, LsI N B g s TL (some ⟨lb, lo, none⟩) L w k (loseL z.1 fr d q) z.2.2 st2 g2 u9 w') ∧ w'.heap[C]? = some (lsBox d q) ∧ LHc N g'.x.T C d q w') := by
        rw [← hbl]
        refine ((hI2.later (Below.refl _ _).drew).lose fr d q hd hq).mono ?_
        rintro r w' ⟨rfl, ⟨st2, g2, h1⟩, h2⟩
        have h6 := (h2.block C (some_lt hC2) hC2n).trans hC2
        refine ⟨rfl, ⟨st2, g2, h1⟩, h6, ?_⟩
        have h7 := h1.nd.nn.cr.nd.cell.2.2.2.2.1
        rw [h1.tt.out, ← hI2.tt.out] at h7
        exact ⟨h7, cell_of_row w' C 0 _ _ _ h6, cell_of_row w' C 1 _ _ _ h6⟩
      have hwk : wrap64 ((k : Int) + 1) = (k : Int) + 1 := by unfold wrap64; omega
      have hzn : Hid ((L.take (k + 1)).foldl (St.lsS fr) (s.A, false, []) = St.lsS fr z (d, q)) := by
        show _ = _
        have hkl := hkL.out
        rw [List.take_add_one, hds.out, List.foldl_append, hz.out]
        rfl
      have hasc : Asc z.1 := by
        have := hI2.nd.nn.cr.tb.asc
        rw [← hI2.hst.out] at this
        exact this
      have hA : Hid (st.A = z.1) := by
        show _ = _
        rw [← hI2.hst.out]
      have hmeas : Hid (p.ln - (intOf (.int .i64 ((k : Int) + 1))).toNat < p.ln - (intOf (.int .i64 (k : Int))).toNat) := meas_next hlt
      have hn1 : k + 1 ≤ p.ln := hlt
      clear hz hk hlt hds hkL hI hI2 hC2 hC2n hCn hlb
      go_wp2_with fail
      cases bl
      · rw [loseL_no hasc hbl] at hW
        have hzz : Hid (St.lsS fr z (d, q) = z) := by
          show _ = _
          unfold St.lsS
          rw [hbl]
          rfl
        rw [hzz.out] at hzn
        replace hbl := hide hbl
        go_region_held3 (LHc N g'.x.T C d q) (first | with_reducible exact hS2 | with_reducible assumption) ((go_at_call 168; refine hW.out.mono ?_; rintro r w3 ⟨rfl, ⟨st2, g2, h3⟩, h4, h5⟩))
        rename_i hHx
        clear hHx h5 h4 hS2 hW
        have hfin := h3.up1
        replace hfin := hide hfin
        clear h3
        go_wp2
        exact ⟨⟨k + 1, z, st2, g2, hn1, by go_num, rfl, hide hzn.out.symm, hfin.out⟩, hmeas.out⟩
      · have hzz : Hid (St.lsS fr z (d, q) = (loseL z.1 fr d q, true, if us then z.2.2 ++ [(d, numL (loseL z.1 fr d q) d)] else z.2.2)) := by
          show _ = _
          have h1 : usedL z.1 d = us := by
            have := hus.out
            rw [hA.out] at this
            exact this
          rw [← h1]
          unfold St.lsS
          rw [hbl]
          rfl
        rw [hzz.out] at hzn
        replace hbl := hide hbl
        clear hzz
        go_region_held3 (LHc N g'.x.T C d q) (first | with_reducible exact hS2 | with_reducible assumption) ((go_at_call 168; refine hW.out.mono ?_; rintro r w3 ⟨rfl, ⟨st2, g2, h3⟩, h4, h5⟩))
        rename_i hHx
        clear hHx hS2 hW
        cases us
        · clear h5 h4
          have hfin := h3.up1
          replace hfin := hide hfin
          clear h3
          go_wp2
          exact ⟨⟨k + 1, _, st2, g2, hn1, by go_num, rfl, hide hzn.out.symm, hfin.out⟩, hmeas.out⟩
        · obtain ⟨c0, c1⟩ := h5.2
          have hNL := nlost_any N g2.x h3.nd.nn.cr d hd
          rw [show st2.A = loseL z.1 fr d q by rw [← h3.hst.out]] at hNL
          obtain ⟨nq, hnq⟩ : ∃ v, numL (loseL z.1 fr d q) d = v := ⟨_, rfl⟩
          rw [hnq] at hNL
          rw [if_pos rfl, hnq] at hzn
          have hnq0 : U32 nq := by
            rw [← hnq]
            unfold numL
            cases hl : lineOf (loseL z.1 fr d q) d with
            | none => exact ⟨by simp, by simp⟩
            | some y =>
              have h1 := h3.nd.nn.cr.tb.ok y
              rw [show st2.A = loseL z.1 fr d q by rw [← h3.hst.out]] at h1
              exact (h1 (lineOf_some hl).1).seq
          replace hnq := hide hnq
          replace hNL := hide hNL
          replace h3 := hide h3
          clear h4 h5 c1
          go_wp2_with fail
          refine hNL.out.mono ?_
          rintro e w4 ⟨rfl, hb4⟩
          have h9 := (h3.out.later hb4).later ((Below.refl _ _).alloc (Nat.le_refl _) (.cells #[.int .u32 d, .int .u32 nq] 237))
          have hrw := hide h9.row
          have hk1 : Hid (z.2.2.length + 1 ≤ maxLen) := by
            have := h9.len
            unfold maxLen
            show _ ≤ _
            omega
          have hk2 : Hid ((z.2.2.length + 1) * 8 ≤ 140737488355328) := by
            have := h9.len
            show _ ≤ _
            omega
          have hbs : Hid (w.heap.size ≤ (w4.alloc (.cells #[.int .u32 d, .int .u32 nq] 237)).heap.size) := h9.up.size
          have hfin : Hid (∀ v7 w7, w7.ownsRow w.heap.size 237 2 v7 (z.2.2.length + 1) (LsC z.2.2 ++ LsC [(d, nq)]) → (w4.alloc (.cells #[.int .u32 d, .int .u32 nq] 237)).grownBy w7 u9.ownBlock → (v7.ownBlock = u9.ownBlock ∨ v7.ownBlock = some (w4.alloc (.cells #[.int .u32 d, .int .u32 nq] 237)).heap.size) → LsI N B g s TL (some ⟨lb, lo, none⟩) L w (k + 1) (loseL z.1 fr d q) (z.2.2 ++ [(d, nq)]) st2 g2 v7 w7) := fun v7 w7 a1 a2 a3 => h9.append d nq a1 a2 a3 hd hnq0
          clear h3 hNL hb4 c0 h9
          go_wp2_with (at_builtin; refine wpList_append_own_at _ rfl _ _ 71 rfl w.heap.size 237 i0 (.agg #[.int .u32 0, .int .u32 0]) 2 8 Tryz.underlying71 hi hz0 hz1 hz2 rfl (by decide) u9 z.2.2.length (LsC z.2.2) rfl hrw.out ⟨w4.heap.size, 0, none⟩ 1 1 (LsC [(d, nq)]) rfl rfl (cells_ls w4 d nq) (one_ls d nq) hk1.out hk2.out hbs.out ?_)
          intro v7 w7 ho7 hg7 _ hv7
          have hf7 := hide (hfin.out v7 w7 ho7 hg7 (by rw [World.size_alloc]; exact hv7))
          clear ho7 hg7 hv7 hfin hrw hbs
          go_wp2
          exact ⟨⟨k + 1, _, st2, g2, hn1, by go_num, rfl, hide hzn.out.symm, hf7.out⟩, hmeas.out⟩
    · obtain rfl : k = p.ln := by omega
      have hzL : Hid (L.foldl (St.lsS fr) (s.A, false, []) = z) := by
        show _ = _
        rw [hz.out, ← hln.out, List.take_length]
      have hst := hI.hst
      obtain ⟨zA, ze, zt⟩ := z
      clear hz hk hlt
      have hse : Hid (s2 = (if ze then st else st.drop 7).lose 0 zt) := by
        show _ = _
        rw [← hans.out]
        unfold St.hearLose
        rw [hzL.out]
        dsimp only
        rw [hst.out]
      have hfrs : Hid (st.frs.length ≤ 1000000) := by
        show _ ≤ _
        rw [← hst.out]
        exact hfl
      have hdrs : Hid (st.drs.length ≤ 1000000) := by
        show _ ≤ _
        rw [← hst.out]
        exact hdl
      have hLo : Hid (∀ st' g2 W, Nd N B g2 st' TL W → W.ownsRow w.heap.size 237 2 u9 zt.length (LsC zt) → st'.frs.length ≤ 1000000 → Calls Tryz.prog 137 #[.pointer (some ⟨B, 0, none⟩), .int .u32 0, u9] W fun e w' => e = .returned (.tuple #[]) ∧ NdP N B g2 st' (st'.lose 0 zt) TL W w') := by
        intro st' g2 W h1 h2 h3
        obtain ⟨ao, c, h4, h5⟩ := told_list h2 hI.ok
        have h6 : zt.length ≤ 65536 := Nat.le_trans hI.len hln1
        rw [h4]
        exact N_lose h1 0 ao c zt h6 h5 h3
      have hu := hide hI.up
      have ht := hide hI.tt.out
      have hn := hide hI.nd
      have hr := hide hI.row
      have hrn := hide hI.nr
      clear hI hst hzL hans
      cases ze
      · replace hse : Hid (s2 = (st.drop 7).lose 0 zt) := hse
        go_wp2_with fail
        refine (N_drop hn.out 7 hdrs.out).mono ?_
        rintro e w4 ⟨rfl, g4, n4, u4, t4⟩
        have hr4 := (u4.row hr.out hrn.out ls_offA).1
        have hL4 := hide (hLo.out _ g4 w4 n4 hr4 hfrs.out)
        have hu4 := hide (hu.out.trans u4)
        have ht4 := hide (t4.trans ht.out)
        clear hr4 u4 t4 n4
        go_wp2_with fail
        refine hL4.out.mono ?_
        rintro e w5 ⟨rfl, g5, n5, u5, t5⟩
        have hfin : Hid (NdP N B g s s2 TL w w5) := by
          show NdP N B g s s2 TL w w5
          rw [hse.out]
          exact ⟨g5, n5, hu4.out.trans u5, t5.trans ht4.out⟩
        clear n5 u5 t5
        go_wp2
        go_returns
        exact ⟨rfl, hfin.out⟩
      · replace hse : Hid (s2 = st.lose 0 zt) := hse
        have hL4 := hide (hLo.out _ g' wr hn.out hr.out hfrs.out)
        go_wp2_with fail
        refine hL4.out.mono ?_
        rintro e w5 ⟨rfl, g5, n5, u5, t5⟩
        have hfin : Hid (NdP N B g s s2 TL w w5) := by
          show NdP N B g s s2 TL w w5
          rw [hse.out]
          exact ⟨g5, n5, hu.out.trans u5, t5.trans ht.out⟩
        clear n5 u5 t5
        go_wp2
        go_returns
        exact ⟨rfl, hfin.out⟩
end Go.Proofs.YtakaadcpaeiccabGreat

namespace Go.Proofs.YtakaadcpaeiccabGreat
open Go.RowKit Go.Maps

/-- The cells of a node that a call of its own reads. -/
@[reducible] def HN (N B T : Nat) (me ld now : Int) (W : World) : Prop := W.cell? ⟨N, 2, none⟩ = some (.int .u32 me) ∧ W.cell? ⟨N, 6, none⟩ = some (.int .u32 ld) ∧ W.cell? ⟨N, 7, none⟩ = some (.pointer (some ⟨T, 0, none⟩)) ∧ W.cell? ⟨B, 0, none⟩ = some (.int .u64 now)
@[reducible] def HO (N B T : Nat) (me ld now : Int) (W0 W : World) : Prop := HN N B T me ld now W ∧ Below W0.heap.size W0 W
theorem HN.of {N B : Nat} {g : NdG} {s : St} {TL : List Hp.Tm} {W : World} (n : Nd N B g s TL W) : HN N B g.x.T s.me s.ldat s.now W := by
  have h := n.nn.cr.nd.more.2.1
  rw [n.nn.eq.ldat] at h
  exact ⟨n.cell.1, h, n.cell.2.2.2.1, n.cell.2.2.2.2⟩
theorem HO.mk' {N B : Nat} {g : NdG} {s : St} {TL : List Hp.Tm} {W0 W : World} (n : Nd N B g s TL W0) (hb : Below W0.heap.size W0 W) : HO N B g.x.T s.me s.ldat s.now W0 W := ⟨HN.of (n.later hb), hb⟩
theorem HO.kAlloc {N B T : Nat} {me ld now : Int} {W0 W : World} {o : Obj} (hk : Hid (∀ W5, Below W0.heap.size W0 W5 → HO N B T me ld now W0 W5)) (h : Below W0.heap.size W0 W) : HO N B T me ld now W0 (W.alloc o) := hk.out _ (h.alloc h.size _)
theorem HO.kAllocDrew {N B T : Nat} {me ld now : Int} {W0 : World} {o : Obj} (hk : Hid (∀ W5, Below W0.heap.size W0 W5 → HO N B T me ld now W0 W5)) : HO N B T me ld now W0 (W0.alloc o).drew := hk.out _ ((Below.refl _ _).alloc (Nat.le_refl _) _).drew
theorem HO.kSet7 {N B T : Nat} {me ld now : Int} {W0 W : World} {v0 v1 v2 v3 v4 v5 v6 : Value} (hk : Hid (∀ W5, Below W0.heap.size W0 W5 → HO N B T me ld now W0 W5)) (h : Below W0.heap.size W0 W) : HO N B T me ld now W0 (((((((W.setCell ⟨W0.heap.size, 0, none⟩ v0).setCell ⟨W0.heap.size, 1, none⟩ v1).setCell ⟨W0.heap.size, 2, none⟩ v2).setCell ⟨W0.heap.size, 3, none⟩ v3).setCell ⟨W0.heap.size, 4, none⟩ v4).setCell ⟨W0.heap.size, 5, none⟩ v5).setCell ⟨W0.heap.size, 6, none⟩ v6) := hk.out _ (below_set7 h (Nat.le_refl _) _ _ _ _ _ _ _)

theorem HN.next {N B : Nat} {g g' : NdG} {s s' : St} {TL' : List Hp.Tm} {W : World} (n : Nd N B g' s' TL' W) (t : g'.x.T = g.x.T) (h1 : s'.me = s.me) (h2 : s'.ldat = s.ldat) (h3 : s'.now = s.now) : HN N B g.x.T s.me s.ldat s.now W := by
  have := HN.of n
  rw [t, h1, h2, h3] at this
  exact this
/-- Besides, where a route's copy lies. -/
@[reducible] def HNE (N B T E : Nat) (me ld now nx : Int) (W : World) : Prop := HN N B T me ld now W ∧ W.cell? ⟨E, 3, none⟩ = some (.int .u32 nx)
theorem datP_wf {i d me : Int} {t : ByteArray} (hi : U32 i) (hd : U32 d) (hm : U32 me) (ht : t.size ≤ 16) : (St.datP i d me t).Wf := by
  unfold U32 at hi hd hm
  constructor <;> (dsimp only [St.datP]; omega)

/-- What a call leaves of a node, where the searches lie as before. -/
def NdS (N B : Nat) (g : NdG) (s s' : St) (TL' : List Hp.Tm) (w w' : World) : Prop := ∃ g', Nd N B g' s' TL' w' ∧ Up B (Ft N g s) (Ft N g' s') w w' ∧ Hid (g'.x.T = g.x.T) ∧ Hid (g'.h = g.h ∧ g'.u = g.u)
theorem NdS.toP {N B : Nat} {g : NdG} {s s' : St} {TL' : List Hp.Tm} {w w' : World} (h : NdS N B g s s' TL' w w') : NdP N B g s s' TL' w w' := by
  obtain ⟨g', n, u, t, _⟩ := h
  exact ⟨g', n, u, t⟩
theorem NdS.refl {N B : Nat} {g : NdG} {s : St} {TL : List Hp.Tm} {w w' : World} (n : Nd N B g s TL w) (hb : Below w.heap.size w w') : NdS N B g s s TL w w' := ⟨g, n.later hb, .below hb, rfl, ⟨rfl, rfl⟩⟩
theorem N_sendS {N B : Nat} {g : NdG} {s : St} {TL : List Hp.Tm} {w : World} (n : Nd N B g s TL w) (t : Int) (p : Pkt) (hp : p.Wf) (L : List (Int × Int)) (hL : HoldsL w p L) (hd : s.frs.length ≤ 1000000) :
    Calls Tryz.prog 80 #[.pointer (some ⟨B, 0, none⟩), .int .u32 t, p.val] w fun e w' => e = .returned (.tuple #[]) ∧ NdS N B g s (s.send t p L) TL w w' := by
  refine (send_any B (B + 1) g.a s.nws s.frs s.cms s.drs t p hp L w n.ac n.base hd hL).mono ?_
  rintro e w' ⟨v7, rfl, h1, h2⟩
  obtain ⟨p, q⟩ := n.act (s' := s.send t p L) h1 h2 (sameN_send s t p L) n.now n.rep
  exact ⟨rfl, _, p, q, rfl, rfl, rfl⟩
theorem N_useS {N B : Nat} {g : NdG} {s : St} {TL : List Hp.Tm} {w : World} (n : Nd N B g s TL w) (d e : Int) (hd : U32 d) (he : U64 e) :
    Calls Tryz.prog 81 #[.pointer (some ⟨g.x.T, 0, none⟩), .int .u32 d, .int .u64 e] w fun r w' => r = .returned (.tuple #[]) ∧ NdS N B g s { s with A := useL s.A d e } TL w w' := by
  refine (Use_any s.me g.x.T _ s.A d e hd he w n.tab).mono ?_
  rintro r w' ⟨rfl, h1, h2⟩
  obtain ⟨M', ff', gg', p, q⟩ := n.table (h1.ext _ _) h2
  exact ⟨rfl, _, p, q, rfl, rfl, rfl⟩

set_option maxRecDepth 100000 in
set_option maxHeartbeats 8000000 in
theorem N_sendText {N B : Nat} {g : NdG} {s : St} {TL : List Hp.Tm} {w : World} (n : Nd N B g s TL w) (d : Int) (hd : U32 d) (t : ByteArray) (ht : t.size ≤ 16) (hme : U32 s.me) (hnow : 0 ≤ s.now ∧ s.now ≤ 4611686018427387904) (hfl : s.frs.length ≤ 1000000) :
    Calls Tryz.prog 53 #[.pointer (some ⟨N, 0, none⟩), .pointer (some ⟨B, 0, none⟩), .int .u32 d, .string t] w fun e w' => e = .returned (.bool (findL s.A d s.now).2) ∧ NdS N B g s (s.sendText d t) TL w w' := by
  obtain ⟨⟨y, fd⟩, hy⟩ : ∃ r, findL s.A d s.now = r := ⟨_, rfl⟩
  obtain ⟨s2, hans⟩ : ∃ s2, s.sendText d t = s2 := ⟨_, rfl⟩
  rw [hans, hy]
  unfold St.sendText at hans
  rw [hy] at hans
  dsimp only at hans ⊢
  have hs2 := hide hans
  have HF := hide (N_findP n d s.now hd hy)
  clear hans
  replace hy := hide hy
  go_enter Tryz.func53, Tryz.ntmps53
  go_upto_region 1 with (fail)
  go_cut [9, 10] from 11 to 24 (FoundP y fd w)
  case first =>
    have hS : HO N B g.x.T s.me s.ldat s.now w w.drew := HO.mk' n (Below.refl _ _).drew
    have hkB := hide fun W5 h5 => HO.mk' (W := W5) n h5
    go_region_held3 (HO N B g.x.T s.me s.ldat s.now w) (first | with_reducible exact hS | with_reducible assumption | (with_reducible apply HO.kSet7 hkB; assumption) | (with_reducible apply HO.kAlloc hkB; assumption) | (with_reducible apply HO.kAllocDrew hkB) | (with_reducible apply hkB.out; assumption)) ((go_at_call 79; refine (HF.out _ (And.right (by assumption))).mono ?_; rintro e w2 ⟨ao, c, rfl, hb2, hpr⟩; try ((with_reducible have hD := hpr zeroR (.slice none 0 0) (zero_new w)); obtain ⟨d0, d1, d2, d3, d4, d5, d6⟩ := hD.cell; have q0 := hD.free 0; have q1 := hD.free 1; have q2 := hD.free 2; have q3 := hD.free 3; have q4 := hD.free 4; have q5 := hD.free 5; have q6 := hD.free 6; have hD' : Hid (LnB w.heap.size zeroR (.slice none 0 0) w2) := hD; clear hD); clear hpr))
    all_goals
      go_wp2_with fail
      go_meet
      first | with_reducible exact found_alloc hb2 | with_reducible exact found_set hb2 hD'
  case rest =>
    obtain ⟨E, ao, c, rfl, rfl, hE, hEl, hb2⟩ := hcut
    have hEn : ¬ Ft N g s E := n.new hEl
    have hyok : fd = true → U32 y.next := fun h => by
      have := findL_ok n.nn.cr.tb.ok d s.now
      rw [hy.out] at this
      rcases this with h1 | h1
      · exact h1.next
      · rw [h] at h1; cases h1
    have n2 := n.later hb2
    clear HF
    cases fd
    · have hs3 : Hid (s = s2) := hs2
      have hfin : Hid (NdS N B g s s2 TL w wc) := by
        show NdS N B g s s2 TL w wc
        rw [← hs3.out]
        exact NdS.refl n hb2
      clear hs2 hE n2
      go_wp2_with fail
      go_returns
      exact ⟨rfl, hfin.out⟩
    · have hyn := hyok rfl
      rw [if_pos rfl] at hs2
      obtain ⟨c2, c6, c7, c0⟩ := HN.of n2
      have f6 := n2.nn.cr.nd.free 6
      go_upto_region 5 with (fail)
      have hnl0 : U32 ((s.ldat + 1) % 4294967296) := by unfold U32; omega
      generalize (s.ldat + 1) % 4294967296 = nl at hs2 hnl0 ⊢
      have hg1 : wc.grownBy (wc.setCell ⟨N, 6, none⟩ (.int .u32 nl)) (some N) := grown_cellOf (grown_self _ (some N)) 6 _
      obtain ⟨e1, e2, e3, e4, e5, e6, e7, e8, e9⟩ := n2.nn.eq
      obtain ⟨n3, u3⟩ := n2.cells (s' := { s with ldat := nl }) (n2.nn.cr.nd.setLdat nl) (Fx.grown hg1 fun k e => by cases e; rfl) ⟨e1, e2, e3, e4, rfl, e6, e7, e8, e9⟩ ⟨rfl, rfl, rfl, rfl, rfl, rfl⟩ ⟨rfl, rfl, rfl, rfl, rfl, rfl, rfl, rfl, rfl⟩ ⟨rfl, rfl, rfl, rfl, rfl⟩
      obtain ⟨hE3, hEn3⟩ := u3.keepR hE hEn
      have ua3 := (Up.below (B := B) (F := Ft N g s) hb2).trans u3
      have t3 : ({ g with x := { g.x with ldat := nl } } : NdG).x.T = g.x.T := rfl
      have v3 : ({ g with x := { g.x with ldat := nl } } : NdG).h = g.h ∧ ({ g with x := { g.x with ldat := nl } } : NdG).u = g.u := ⟨rfl, rfl⟩
      generalize ({ g with x := { g.x with ldat := nl } } : NdG) = g3 at n3 ua3 hEn3 t3 v3
      replace t3 := hide t3
      replace v3 := hide v3
      obtain ⟨s3, hs3⟩ : ∃ z, ({ s with ldat := nl } : St) = z := ⟨_, rfl⟩
      have h3 : Hid (s3.now = s.now ∧ s3.me = s.me ∧ s3.ldat = nl ∧ s3.frs = s.frs ∧ { s3.send y.next (St.datP nl d s3.me t) [] with A := useL (s3.send y.next (St.datP nl d s3.me t) []).A d ((s3.send y.next (St.datP nl d s3.me t) []).now + 3000) } = s2) := by
        show _ ∧ _
        rw [← hs3]
        exact ⟨rfl, rfl, rfl, rfl, hs2.out⟩
      rw [hs3] at n3 ua3 hEn3
      have hme3 : U32 s3.me := by rw [h3.out.2.1]; exact hme
      have hnow3 : 0 ≤ s3.now ∧ s3.now ≤ 4611686018427387904 := by rw [h3.out.1]; exact hnow
      have hS0 := HN.of n3.drew
      rw [h3.out.2.2.1] at hS0
      clear hs3 u3 n2 hE hb2 hs2 c2 c6 c7 c0 f6 e1 e2 e3 e4 e5 e6 e7 e8 e9 hg1 hyok hEn
      generalize World.setCell _ _ _ = W3 at n3 ua3 hE3 hS0 ⊢
      have HS := hide (N_sendS n3.drew y.next (St.datP nl d s3.me t) (datP_wf hnl0 hd hme3 ht) [] ⟨rfl, fun j hj => by simp at hj⟩ (by rw [h3.out.2.2.2.1]; exact hfl))
      obtain ⟨s4, hs4⟩ : ∃ z, s3.send y.next (St.datP nl d s3.me t) [] = z := ⟨_, rfl⟩
      have h4 : Hid (s4.now = s3.now ∧ s4.me = s3.me ∧ s4.ldat = nl ∧ { s4 with A := useL s4.A d (s4.now + 3000) } = s2) := by
        show _ ∧ _
        have := h3.out.2.2.2.2
        rw [hs4] at this
        refine ⟨?_, ?_, ?_, this⟩
        · rw [← hs4]; rfl
        · rw [← hs4]; rfl
        · rw [← hs4]; exact h3.out.2.2.1
      rw [hs4] at HS
      clear hs4
      dsimp only [Pkt.val, St.datP] at HS
      have hS : HNE N B g3.x.T E s3.me nl s3.now y.next W3.drew := ⟨hS0, hE3.cell.2.2.2.1⟩
      have hE4 : LnB E y (.slice ao y.bef.length c) W3.drew := hE3
      clear hS0
      go_region_held3 (HNE N B g3.x.T E s3.me nl s3.now y.next) (first | with_reducible exact hS | with_reducible assumption) ((go_at_call 80; refine HS.out.mono ?_; rintro e w4 ⟨rfl, hN⟩; obtain ⟨g4, n4, u4, t4, v4⟩ := hN; obtain ⟨hE5, hEn5⟩ := u4.keepR hE4 hEn3; have hk4 : HNE N B g3.x.T E s3.me nl s3.now y.next w4 := ⟨by have h9 := HN.next (s := s4) n4 t4.out rfl rfl rfl; rw [h4.out.1, h4.out.2.1, h4.out.2.2.1] at h9; exact h9, hE5.cell.2.2.2.1⟩))
      rename_i hHx
      clear hHx hk4 hS
      have ua4 := (ua3.trans (.below (Below.refl _ _).drew)).trans u4
      have hn4 : 0 ≤ s4.now ∧ s4.now ≤ 4611686018427387904 := by rw [h4.out.1]; exact hnow3
      have HV : Hid (∀ t, t = s4.now + 3000 → Calls Tryz.prog 81 #[.pointer (some ⟨g4.x.T, 0, none⟩), .int .u32 d, .int .u64 t] w4.drew fun r w' => r = .returned (.tuple #[]) ∧ NdS N B g4 s4 s2 TL w4.drew w') := by
        rintro _ rfl
        have := N_useS n4.drew d (s4.now + 3000) hd (by unfold U64; omega)
        rw [h4.out.2.2.2] at this
        exact this
      have hsm : Hid (s2.me = s4.me ∧ s2.ldat = s4.ldat ∧ s2.now = s4.now) := by
        show _ ∧ _
        rw [← h4.out.2.2.2]
        exact ⟨rfl, rfl, rfl⟩
      have hS : HN N B g4.x.T s4.me s4.ldat s4.now w4.drew := HN.of n4.drew
      clear HS h3 n3 u4 hE3 hE4 hE5 h4 ua3
      go_wp2_with fail
      go_region_held3 (HN N B g4.x.T s4.me s4.ldat s4.now) (first | with_reducible exact hS | with_reducible assumption) ((go_at_call 81; refine (HV.out _ (by first | rfl | exact u64add hn4 (by decide))).mono ?_; rintro e w9 ⟨rfl, hN⟩; obtain ⟨g9, n9, u9, t9, v9⟩ := hN; have hk9 : HN N B g4.x.T s4.me s4.ldat s4.now w9 := HN.next n9 t9.out hsm.out.1 hsm.out.2.1 hsm.out.2.2))
      rename_i hHx
      clear hHx hS hk9
      have ua9 := (ua4.trans (.below (Below.refl _ _).drew)).trans u9
      have hfin : Hid (NdS N B g s s2 TL w w9) := ⟨g9, n9, ua9, t9.out.trans (t4.out.trans t3.out), v9.out.1.trans (v4.out.1.trans v3.out.1), v9.out.2.trans (v4.out.2.trans v3.out.2)⟩
      clear ua9 u9 n9 ua4 n4
      go_wp2
      go_returns
      exact ⟨rfl, hfin.out⟩
end Go.Proofs.YtakaadcpaeiccabGreat

namespace Go.Proofs.YtakaadcpaeiccabGreat
open Go.RowKit Go.Maps

theorem filt_len {Q : List Sr} (hn : Q.Pairwise fun a b => a.dest ≠ b.dest) {q : Sr} (hq : q ∈ Q) : (Q.filter fun z => !decide (z.dest = q.dest)).length = Q.length - 1 := by
  induction Q with
  | nil => cases hq
  | cons a Q ih =>
    rw [List.pairwise_cons] at hn
    rcases List.mem_cons.1 hq with rfl | h
    · have h1 : Q.filter (fun z => !decide (z.dest = q.dest)) = Q := List.filter_eq_self.2 fun z hz => by simpa using (hn.1 z hz).symm
      simp [h1]
    · have h1 := ih hn.2 h
      have h2 : a.dest ≠ q.dest := hn.1 q h
      have h3 : 0 < Q.length := List.length_pos_of_mem h
      rw [List.filter_cons_of_pos (by simpa using h2)]
      simp only [List.length_cons]
      omega
/-- A timer is taken back. -/
theorem N_cancel {N B : Nat} {g : NdG} {s : St} {TL : List Hp.Tm} {w : World} (n : Nd N B g s TL w) (k : Int) (hk : I64 k) (hl : TL.length ≤ 1000000) :
    Calls Tryz.prog 150 #[.pointer (some ⟨g.x.Tm, 0, none⟩), .int .i64 k] w fun e w' => ∃ b h' v' TL', e = .returned (.bool b) ∧ Nd N B { g with hp := h', tv := v' } s TL' w' ∧ Up B (Ft N g s) (Ft N { g with hp := h', tv := v' } s) w w' ∧ ((∃ x, x.2.1 = k ∧ (x :: TL').Perm TL) ∨ ((∀ x ∈ TL, x.2.1 ≠ k) ∧ TL' = TL)) := by
  have hr := n.nn.rs
  refine (Cancel_any 0 g.x.Tm g.Mt s.tl g.hp g.tv w hr.tm (by rw [hr.pm.length_eq]; exact hl) hr.hpo k hk).mono ?_
  rintro e w' ⟨h', v', h1, h2, h3, h4, h5⟩
  have hnd := n.nn.nod
  simp only [List.nodup_cons, List.mem_cons, List.not_mem_nil, or_false, not_or] at hnd
  obtain ⟨_, _, ⟨d1, d2⟩, d3, _⟩ := hnd
  have hin : ∀ k, k = g.x.Tm ∨ k = g.Mt ∨ g.tv.ownBlock = some k → RsIn g.x g.h g.u g.Mt g.tv s k := fun k hk => .inr (.inr (hk.elim .inl fun h => .inr (h.elim .inl fun h => .inr (.inl h))))
  have hf : Fx (fun k => k = g.x.Tm ∨ k = g.Mt ∨ g.tv.ownBlock = some k) w w' := ⟨h2.os, h2.tape, h2.output, h2.size, fun k hk hn => h2.block k hk (fun e => hn (.inl e)) (fun e => hn (.inr (.inl e))) (fun e => hn (.inr (.inr e.symm)))⟩
  have hne : ∀ {k : Nat} {o : Obj}, w.heap[k]? = some o → k ≠ g.Mt → (∀ c, o ≠ .cells c 165 (0, 0)) → (∀ c, o ≠ .cells c 254 (0, 0)) → w'.heap[k]? = w.heap[k]? := by
    intro k o ho hk c1 c2
    refine hf.block k (some_lt ho) ?_
    rintro (rfl | h | h)
    · rw [show w.heap[g.x.Tm]? = _ from hr.tm.blk] at ho
      exact c1 _ (Option.some.inj ho).symm
    · exact hk h
    · obtain ⟨c, hc⟩ := row_obj hr.tm.row h
      rw [hc] at ho
      exact c2 _ (Option.some.inj ho).symm
  have hN : w'.heap[N]? = w.heap[N]? := hne (n.nn.cr.nd) (fun e => by
    obtain ⟨f, p1, _⟩ := hr.tm.map
    obtain ⟨es, cl, hm⟩ := p1.obj
    rw [← e, show w.heap[N]? = _ from n.nn.cr.nd] at hm
    cases hm) (fun c e => by cases e) (fun c e => by cases e)
  have hS : SrM g.x.Msr g.h g.u s.Q w' := hr.sr.kept fun k hk => by
    obtain ⟨o, ho, ⟨rfl, _, _, rfl⟩ | ⟨c, rfl⟩ | ⟨c, rfl⟩⟩ := hr.sr.kind hk
    · exact hne ho d3 (fun c e => by cases e) (fun c e => by cases e)
    · refine hne ho ?_ (fun c e => by cases e) (fun c e => by cases e)
      rintro rfl
      obtain ⟨f, p1, _⟩ := hr.tm.map
      obtain ⟨es, cl, hm⟩ := p1.obj
      rw [hm] at ho
      cases ho
    · refine hne ho ?_ (fun c e => by cases e) (fun c e => by cases e)
      rintro rfl
      obtain ⟨f, p1, _⟩ := hr.tm.map
      obtain ⟨es, cl, hm⟩ := p1.obj
      rw [hm] at ho
      cases ho
  have hM : SnM g.x.Ms s.tn s.mem w' := hr.sn.block (by
    obtain ⟨es, cl, hm⟩ := hr.sn.obj
    exact hne hm d2 (fun c e => by cases e) (fun c e => by cases e))
  have hP := row_at (W' := w') hr.pc fun k hk => (by
    obtain ⟨c, hc⟩ := row_obj hr.pc hk
    refine hne hc ?_ (fun c e => by cases e) (fun c e => by cases e)
    rintro rfl
    obtain ⟨f, p1, _⟩ := hr.tm.map
    obtain ⟨es, cl, hm⟩ := p1.obj
    rw [hm] at hc
    cases hc)
  obtain ⟨p, u⟩ := n.rest (s' := s) (TL' := h') (n.nn.cr.nd.block hN) rfl rfl n.nn.eq (h' := g.h) (u' := g.u) (Mt' := g.Mt) (hp' := h') (tv' := v')
    ⟨hM, hS, h1, h4, .refl _, hP⟩ (hf.mono fun k hk => .inr (hin k hk)) (fun k hk => .inl (by unfold RsIn at hk ⊢; rw [h3] at hk; exact hk)) ⟨rfl, rfl, rfl⟩ ⟨rfl, rfl, rfl, rfl, rfl, rfl, rfl, rfl, rfl⟩
  rcases h5 with ⟨x, hx, rfl, hpm⟩ | ⟨hno, rfl, rfl⟩
  · exact ⟨true, h', v', h', rfl, p, u, .inl ⟨x, hx, hpm.trans hr.pm⟩⟩
  · obtain ⟨p2, u2⟩ := n.rest (s' := s) (TL' := TL) (n.nn.cr.nd.block hN) rfl rfl n.nn.eq (h' := g.h) (u' := g.u) (Mt' := g.Mt) (hp' := g.hp) (tv' := v')
      ⟨hM, hS, h1, h4, hr.pm, hP⟩ (hf.mono fun k hk => .inr (hin k hk)) (fun k hk => .inl (by unfold RsIn at hk ⊢; rw [h3] at hk; exact hk)) ⟨rfl, rfl, rfl⟩ ⟨rfl, rfl, rfl, rfl, rfl, rfl, rfl, rfl, rfl⟩
    exact ⟨false, g.hp, v', TL, rfl, p2, u2, .inr ⟨fun x hx => hno x (hr.pm.mem_iff.2 hx), rfl⟩⟩
/-- A search is taken out of the map. -/
theorem SrM.del {Ms : Nat} {h : Int → Option Nat} {u : Int → Value} {Q : List Sr} {W W' : World} (r : SrM Ms h u Q W) {q : Sr} (hq : q ∈ Q) (hm : MapP W' Ms (updP h q.dest none) (Q.length - 1)) (he : ∀ k, SrIn Ms h u Q k → k ≠ Ms → W'.heap[k]? = W.heap[k]?) : SrM Ms (updP h q.dest none) u (Q.filter fun z => !decide (z.dest = q.dest)) W' := by
  have hMn : ∀ z ∈ Q, ∀ k, (h z.dest = some k ∨ (u z.dest).ownBlock = some k) → k ≠ Ms := by
    rintro z hz k hk rfl
    obtain ⟨es, cl, hm0⟩ := r.map.obj
    rcases hk with hk | hk
    · obtain ⟨B, h1, h2⟩ := r.ln z hz
      rw [h1] at hk
      cases hk
      obtain ⟨c, hc⟩ := h2.obj
      rw [hc] at hm0
      cases hm0
    · obtain ⟨c, hc⟩ := row_obj (r.row z hz) hk
      rw [hc] at hm0
      cases hm0
  have hmem : ∀ z, z ∈ Q.filter (fun z => !decide (z.dest = q.dest)) → z ∈ Q ∧ z.dest ≠ q.dest := fun z hz => by
    have := List.mem_filter.1 hz
    exact ⟨this.1, by simpa using this.2⟩
  refine ⟨by rw [filt_len r.nod hq]; exact hm, r.nod.filter _, fun z hz => r.ok z (hmem z hz).1, fun d B hd hB => ?_, fun z hz => ?_, fun z hz => ?_, fun a ha b hb => r.apart a (hmem a ha).1 b (hmem b hb).1, Nat.le_trans (List.length_filter_le _ _) r.len⟩
  · by_cases e : d = q.dest
    · subst e
      simp [updP] at hB
    · simp [updP, e] at hB
      obtain ⟨z, hz, rfl⟩ := r.dom d B hd hB
      exact ⟨z, List.mem_filter.2 ⟨hz, by simpa using e⟩, rfl⟩
  · obtain ⟨hz1, hz2⟩ := hmem z hz
    obtain ⟨B, h1, h2⟩ := r.ln z hz1
    exact ⟨B, by simp [updP, hz2, h1], h2.block (he B (.inr ⟨z, hz1, .inl h1⟩) (hMn z hz1 B (.inl h1)))⟩
  · obtain ⟨hz1, hz2⟩ := hmem z hz
    exact row_at (r.row z hz1) fun k hk => he k (.inr ⟨z, hz1, .inr hk⟩) (hMn z hz1 k (.inr hk))
end Go.Proofs.YtakaadcpaeiccabGreat
