import Derived.Test.YtakaadcpaeiccabGreatC54
import Derived.Test.YtakaadcpaeiccabGreatC42
import Derived.Test.YtakaadcpaeiccabGreatC43
import Derived.Deep.RegionHeld3
namespace Go.Proofs.YtakaadcpaeiccabGreat
open Go.RowKit Go.Maps

/-! A node of a mesh sends a text. -/
/-- What a region of send reads. -/
@[reducible] def SSd (G g a b BA BB N z : Nat) (now ad : Int) (sv : Value) (W : World) : Prop :=
  (W.cell? ⟨G, 0, none⟩ = some (.int .u64 now) ∧ W.cell? ⟨G, 1, none⟩ = some sv ∧ W.cell? ⟨g, a, none⟩ = some (.pointer (some ⟨BA, 0, none⟩)) ∧ W.cell? ⟨BA, 2, none⟩ = some (.pointer (some ⟨N, 0, none⟩)) ∧ W.cell? ⟨g, b, none⟩ = some (.pointer (some ⟨BB, 0, none⟩)) ∧ W.cell? ⟨BB, 0, none⟩ = some (.int .u32 ad)) ∧ G < z ∧ g < z ∧ BA < z ∧ BB < z ∧ z ≤ W.heap.size
theorem SSd.keep {G g a b BA BB N z : Nat} {now ad : Int} {sv : Value} {W W' : World} (h : SSd G g a b BA BB N z now ad sv W) (hz : z ≤ W'.heap.size) (hb : ∀ k, k = G ∨ k = g ∨ k = BA ∨ k = BB → W'.heap[k]? = W.heap[k]?) : SSd G g a b BA BB N z now ad sv W' := by
  obtain ⟨⟨c0, c1, c2, c3, c4, c5⟩, h1, h2, h3, h4, _⟩ := h
  exact ⟨⟨(World.cell?_of_block (a := ⟨G, 0, none⟩) (hb _ (.inl rfl))).trans c0, (World.cell?_of_block (a := ⟨G, 1, none⟩) (hb _ (.inl rfl))).trans c1, (World.cell?_of_block (a := ⟨g, a, none⟩) (hb _ (.inr (.inl rfl)))).trans c2, (World.cell?_of_block (a := ⟨BA, 2, none⟩) (hb _ (.inr (.inr (.inl rfl))))).trans c3, (World.cell?_of_block (a := ⟨g, b, none⟩) (hb _ (.inr (.inl rfl)))).trans c4, (World.cell?_of_block (a := ⟨BB, 0, none⟩) (hb _ (.inr (.inr (.inr rfl))))).trans c5⟩, h1, h2, h3, h4, hz⟩
theorem SSd.low {G g a b BA BB N z : Nat} {now ad : Int} {sv : Value} {W W' : World} (h : SSd G g a b BA BB N z now ad sv W) (hb : Below z W W') : SSd G g a b BA BB N z now ad sv W' := by
  have h' := h
  obtain ⟨_, h1, h2, h3, h4, h5⟩ := h
  exact h'.keep (Nat.le_trans h5 hb.size) fun k hk => hb.block k (by rcases hk with rfl | rfl | rfl | rfl <;> assumption)
theorem SSd.drew {G g a b BA BB N z : Nat} {now ad : Int} {sv : Value} {W : World} (h : SSd G g a b BA BB N z now ad sv W) : SSd G g a b BA BB N z now ad sv W.drew := h.keep h.2.2.2.2.2 fun _ _ => rfl
theorem SSd.kAlloc {G g a b BA BB N z : Nat} {now ad : Int} {sv : Value} {W : World} {o : Obj} (h : SSd G g a b BA BB N z now ad sv W) : SSd G g a b BA BB N z now ad sv (W.alloc o) := h.low ((Below.refl _ _).alloc h.2.2.2.2.2 _)
theorem SSd.kAllocDrew {G g a b BA BB N z : Nat} {now ad : Int} {sv : Value} {W : World} {o : Obj} (h : SSd G g a b BA BB N z now ad sv W.drew) : SSd G g a b BA BB N z now ad sv (W.alloc o).drew := by
  have h' : SSd G g a b BA BB N z now ad sv W := ⟨h.1, h.2⟩
  exact h'.kAlloc.drew
theorem SSd.kSet5 {G g a b BA BB N z : Nat} {now ad : Int} {sv : Value} {W : World} {v0 v1 v2 v3 v4 : Value} (h : SSd G g a b BA BB N z now ad sv W) : SSd G g a b BA BB N z now ad sv (((((W.setCell ⟨z, 0, none⟩ v0).setCell ⟨z, 1, none⟩ v1).setCell ⟨z, 2, none⟩ v2).setCell ⟨z, 3, none⟩ v3).setCell ⟨z, 4, none⟩ v4) := h.low (below_set5 (Below.refl _ _) (Nat.le_refl _) _ _ _ _ _)
/-- What a node's call leaves of a mesh, what it does beside it. -/
structure SndR (p : Prop) (y : MG) (m m' : Msh) (w : World) (frs cms : List (Int × ByteArray)) (drs : List Int) (frm cam drp : Value) (W : World) : Prop where
  mp : MP y m m' w W
  out : OutR w.heap.size frs cms drs frm cam drp W
  p : p
theorem SndR.alloc {p : Prop} {y : MG} {m m' : Msh} {w : World} {frs cms : List (Int × ByteArray)} {drs : List Int} {frm cam drp : Value} {W : World} (h : SndR p y m m' w frs cms drs frm cam drp W) (o : Obj) : SndR p y m m' w frs cms drs frm cam drp (W.alloc o) :=
  ⟨h.mp.post ((Below.refl _ _).alloc (Nat.le_refl _) _), h.out.later ((Below.refl _ _).alloc (Nat.le_refl _) _), h.p⟩
theorem SndR.set {p : Prop} {y : MG} {m m' : Msh} {w : World} {frs cms : List (Int × ByteArray)} {drs : List Int} {frm cam drp : Value} {W W' : World} (h : SndR p y m m' w frs cms drs frm cam drp W) {D : Nat} {c : Array Value} (hD : W.heap[D]? = some (.cells c 52 (0, 0))) (hDl : w.heap.size ≤ D) (hg : W.grownBy W' (some D)) : SndR p y m m' w frs cms drs frm cam drp W' := by
  obtain ⟨⟨y', hm, hu⟩, ho, hp⟩ := h
  refine ⟨⟨y', hm.kept fun k hk => hg.block k (hm.lt hk) fun e => ?_, ⟨grown_Fx hu.fx hg (fun j hj e => ?_), fun k hk => (hu.sub k hk).imp_right fun h => ⟨h.1, Nat.lt_of_lt_of_le h.2 hg.size⟩, hu.G, hu.n, hu.sv, hu.B⟩⟩, ho.at fun k c' t ht hk => hg.block k (some_lt hk) fun e => ?_, hp⟩
  · cases e
    exact hm.not hD (by decide) hk
  · cases e
    omega
  · cases e
    rw [hD] at hk
    cases hk
    exact absurd ht (by decide)
/-- What stands behind 'Send' in send. -/
def SndC (p : Prop) (y : MG) (m m' : Msh) (w : World) (j : ByteArray) (rep : Bool) (frs cms : List (Int × ByteArray)) (drs : List Int) (r : Int) (nv ov : Value) (W : World) : Prop := ∃ af kf ac kc ad kd D, nv = .pointer (some ⟨D, 0, none⟩) ∧ ov = .int .i64 r ∧ OutB D j rep (.slice af frs.length kf) (.slice ac cms.length kc) (.slice ad drs.length kd) W ∧ SndR p y m m' w frs cms drs (.slice af frs.length kf) (.slice ac cms.length kc) (.slice ad drs.length kd) W
theorem snd_alloc {p : Prop} {y : MG} {m m' : Msh} {w w2 : World} {j : ByteArray} {rep : Bool} {frs cms : List (Int × ByteArray)} {drs : List Int} {r : Int} {af ac ad : Option Addr} {kf kc kd : Nat} (h : SndR p y m m' w frs cms drs (.slice af frs.length kf) (.slice ac cms.length kc) (.slice ad drs.length kd) w2) : SndC p y m m' w j rep frs cms drs r (.pointer (some ⟨w2.heap.size, 0, none⟩)) (.int .i64 r) (w2.alloc (.cells #[.string j, .bool rep, .slice af frs.length kf, .slice ac cms.length kc, .slice ad drs.length kd] 52)) :=
  ⟨af, kf, ac, kc, ad, kd, _, rfl, rfl, heap_alloc_new _ _, h.alloc _⟩
theorem snd_set {p : Prop} {y : MG} {m m' : Msh} {w w2 : World} {j : ByteArray} {rep : Bool} {frs cms : List (Int × ByteArray)} {drs : List Int} {r : Int} {af ac ad : Option Addr} {kf kc kd : Nat} {j0 : ByteArray} {r0 : Bool} {f0 c0 d0 : Value} (h : SndR p y m m' w frs cms drs (.slice af frs.length kf) (.slice ac cms.length kc) (.slice ad drs.length kd) w2) (hD : Hid (OutB w.heap.size j0 r0 f0 c0 d0 w2)) : SndC p y m m' w j rep frs cms drs r (.pointer (some ⟨w.heap.size, 0, none⟩)) (.int .i64 r) (((((w2.setCell ⟨w.heap.size, 0, none⟩ (.string j)).setCell ⟨w.heap.size, 1, none⟩ (.bool rep)).setCell ⟨w.heap.size, 2, none⟩ (.slice af frs.length kf)).setCell ⟨w.heap.size, 3, none⟩ (.slice ac cms.length kc)).setCell ⟨w.heap.size, 4, none⟩ (.slice ad drs.length kd)) :=
  ⟨af, kf, ac, kc, ad, kd, _, rfl, rfl, hD.out.set5, h.set hD.out (Nat.le_refl _) (grown_set5 _ _ _ _ _ _ _)⟩

theorem MP.size {y : MG} {m m' : Msh} {w w' : World} (h : MP y m m' w w') : w.heap.size ≤ w'.heap.size := by
  obtain ⟨_, _, hu⟩ := h
  exact hu.fx.size

set_option maxRecDepth 100000 in
set_option maxHeartbeats 8000000 in
theorem send_walk {p : Prop} {y : MG} {m m' md : Msh} {w : World} {evs : List Ev} (h : MM y m w) (a b : Nat) (ha : a < m.S.length) (hb : b < m.S.length) (t : ByteArray) (r : Int) (hr : r = 0 ∨ r = 6 ∨ r = 2) (j : ByteArray) (rep : Bool) (frs cms : List (Int × ByteArray)) (drs : List Int) {z : St} (hnd : (m.at' a).nd = some z)
    (HC : ∀ x s, y.L[a]? = some x → m.S[a]? = some s → ∀ W5, Below w.heap.size w W5 → Calls Tryz.prog 21 #[.pointer (some ⟨x.N, 0, none⟩), .int .u64 m.now, .int .u32 (m.at' b).addr, .string t] W5 fun e w2 => ∃ af kf ac kc ad kd, e = .returned (.tuple #[.agg #[.string j, .bool rep, .slice af frs.length kf, .slice ac cms.length kc, .slice ad drs.length kd], .int .i64 r]) ∧ Fx (Ft x.N x.g z) W5 w2 ∧ SndR p y m m' w frs cms drs (.slice af frs.length kf) (.slice ac cms.length kc) (.slice ad drs.length kd) w2)
    (HD : r = 0 → ∀ frm cam drp W, SndR p y m m' w frs cms drs frm cam drp W → Calls Tryz.prog 36 #[.pointer (some ⟨y.G, 0, none⟩), .int .i64 a, .agg #[.string j, .bool rep, frm, cam, drp]] W (DidP y m md evs w.heap.size w))
    (HE : r ≠ 0 → md = m' ∧ evs = [⟨a, r, Ot.none⟩]) :
    Calls Tryz.prog 30 #[.pointer (some ⟨y.G, 0, none⟩), .int .i64 a, .int .i64 b, .string t] w fun e w' => DidP y m md evs w.heap.size w e w' ∧ p := by
  obtain ⟨xa, sa, g, c, e1, e2, e3, e4, p0⟩ := h.get ha
  obtain ⟨xb, sb, g', c', f1, f2, f3, f4, p1⟩ := h.get hb
  obtain ⟨q0, q1, _, _⟩ := h.cell
  have hgg : g' = g ∧ c' = c := by
    rw [f4] at e4
    injection e4 with h5 _ h6
    injection h5 with h5
    injection h5 with h5 _ _
    exact ⟨h5, h6⟩
  obtain ⟨rfl, rfl⟩ := hgg
  have hst := h.st a xa sa e1 e2
  have c2 := hst.cell.2.2.1
  rw [e3] at hnd
  rw [hnd] at c2
  unfold ndV at c2
  have ca := (h.st b xb sb f1 f2).cell.1
  rw [e4] at q1
  obtain ⟨nn, _⟩ := hst.nd z hnd
  have hin : (a : Int) < (m.S.length : Int) := by omega
  have hjn : (b : Int) < (m.S.length : Int) := by omega
  have hGl := some_lt h.blk
  have hgl : g' < w.heap.size := World.block_lt_of_cell? _ _ p0
  have hAl := some_lt hst.blk
  have hBl := some_lt (h.st b xb sb f1 f2).blk
  have hgI : MIn y m g' := .inr (.inl (by rw [e4]; rfl))
  have hnF : ∀ k, k = y.G ∨ k = g' ∨ k = xa.B ∨ k = xb.B → ¬ Ft xa.N xa.g z k := by
    intro k hk hF
    obtain ⟨o, ho, hK⟩ := nn.kind hF
    rcases hk with rfl | rfl | rfl | rfl
    · rw [h.blk] at ho
      cases ho
      exact hK.not (by decide)
    · obtain ⟨cc, hc⟩ := row_obj h.sts (k := k) (by rw [e4]; rfl)
      rw [hc] at ho
      cases ho
      exact hK.not (by decide)
    · rw [hst.blk] at ho
      cases ho
      exact hK.not (by decide)
    · rw [(h.st b xb sb f1 f2).blk] at ho
      cases ho
      exact hK.not (by decide)
  rw [f3] at HC
  have hS0 : SSd y.G g' a b xa.B xb.B xa.N w.heap.size m.now sb.addr (.slice (some ⟨g', 0, none⟩) m.S.length c') w := ⟨⟨q0, q1, p0, c2, p1, ca⟩, hGl, hgl, hAl, hBl, Nat.le_refl _⟩
  have HC2 : Hid (∀ W5, Below w.heap.size w W5 → Calls Tryz.prog 21 #[.pointer (some ⟨xa.N, 0, none⟩), .int .u64 m.now, .int .u32 sb.addr, .string t] W5 fun e w2 => ∃ af kf ac kc ad kd, e = .returned (.tuple #[.agg #[.string j, .bool rep, .slice af frs.length kf, .slice ac cms.length kc, .slice ad drs.length kd], .int .i64 r]) ∧ SSd y.G g' a b xa.B xb.B xa.N w.heap.size m.now sb.addr (.slice (some ⟨g', 0, none⟩) m.S.length c') w2 ∧ (∀ j r f c d, OutB w.heap.size j r f c d W5 → OutB w.heap.size j r f c d w2) ∧ Hid (SndR p y m m' w frs cms drs (.slice af frs.length kf) (.slice ac cms.length kc) (.slice ad drs.length kd) w2)) := by
    intro W5 hb5
    refine (HC xa sa e1 e2 W5 hb5).mono ?_
    rintro e w2 ⟨af, kf, ac, kc, ad, kd, rfl, hfx, hR⟩
    have hz5 := hb5.size
    refine ⟨af, kf, ac, kc, ad, kd, rfl, (hS0.low hb5).keep (Nat.le_trans hz5 hfx.size) fun k hk => hfx.block k ?_ (hnF k hk), fun j r f c d hO => (hfx.block _ (some_lt hO) fun hF => ?_).trans hO, hR⟩
    · rcases hk with rfl | rfl | rfl | rfl <;> omega
    · have := nn.lt hF
      omega
  have hS : SSd y.G g' a b xa.B xb.B xa.N w.heap.size m.now sb.addr (.slice (some ⟨g', 0, none⟩) m.S.length c') w.drew := hS0.drew
  replace HD := hide HD
  replace HE := hide HE
  clear HC hnF hgI hGl hgl hAl hBl nn hst e1 e2 e3 e4 f1 f2 f3 f4 hS0 h q0 q1 p0 c2 p1 ca
  obtain ⟨N, hNN⟩ : ∃ N, xa.N = N := ⟨_, rfl⟩
  rw [hNN] at HC2 hS
  clear hNN
  go_enter Tryz.func30, Tryz.ntmps30
  go_upto_region 1 with (fail)
  go_cut [9, 10] from 12 to 39 (SndC p y m m' w j rep frs cms drs r)
  case first =>
    clear HD HE hr hnd
    go_region_held3 (SSd y.G g' a b xa.B xb.B N w.heap.size m.now sb.addr (.slice (some ⟨g', 0, none⟩) m.S.length c')) (first | with_reducible exact hS | with_reducible assumption | (with_reducible apply SSd.kAllocDrew; with_reducible exact hS) | (with_reducible apply SSd.kSet5; assumption) | (with_reducible apply SSd.kAlloc; assumption)) ((go_at_call 21; refine (HC2.out _ (by first | with_reducible exact (Below.refl _ _).drew | with_reducible exact ((Below.refl _ _).alloc (Nat.le_refl _) _).drew)).mono ?_; rintro e w2 ⟨af, kf, ac, kc, ad, kd, rfl, hS2, hpr, hnr⟩; try ((with_reducible have hD := hpr _ _ _ _ _ (out_new w)); have hD' : Hid (OutB w.heap.size ⟨#[]⟩ false (.slice none 0 0) (.slice none 0 0) (.slice none 0 0) w2) := hD; obtain ⟨d0, d1, d2, d3, d4, dq⟩ := hD'.out.cell; have q0 := dq 0; have q1 := dq 1; have q2 := dq 2; have q3 := dq 3; have q4 := dq 4; clear hD dq); clear hpr))
    all_goals
      go_wp2_with fail
      go_meet
      first | with_reducible exact snd_alloc hnr.out | with_reducible exact snd_set hnr.out hD'
  case rest =>
    obtain ⟨af, kf, ac, kc, ad, kd, D, rfl, rfl, hD, hR⟩ := hcut
    clear HC2 hS
    obtain ⟨d0, d1, d2, d3, d4, _⟩ := hD.cell
    have hp := hide hR.p
    rcases hr with rfl | hr
    · have HDc := hide (HD.out rfl _ _ _ _ hR)
      clear HD HE hD hR hnd
      go_wp2_with (go_at_call 36; refine HDc.out.mono ?_; rintro e w3 ⟨v2, L2, rfl, hL2, hev2, hmp2⟩; replace hL2 := hide hL2; replace hev2 := hide hev2; replace hmp2 := hide hmp2)
      go_ret
      exact ⟨⟨_, _, rfl, hL2.out, hev2.out, hmp2.out⟩, hp.out⟩
    · have hr0 : r ≠ 0 := by omega
      have hrb : (r == 0) = false := by simpa using hr0
      obtain ⟨rfl, rfl⟩ := HE.out hr0
      have hev := ev_one (b := w.heap.size) (W := wc) (x := (⟨a, r, Ot.none⟩, ⟨.slice none 0 0, .slice none 0 0, .slice none 0 0⟩)) hR.mp.size ⟨⟨rfl, .inl ⟨rfl, rfl⟩⟩, ⟨rfl, .inl ⟨rfl, rfl⟩⟩, ⟨rfl, .inl ⟨rfl, rfl⟩⟩⟩
      have hb5 : Below wc.heap.size wc (wc.alloc (.cells (evC1 (⟨a, r, Ot.none⟩, ⟨.slice none 0 0, .slice none 0 0, .slice none 0 0⟩)).toArray 54)) := (Below.refl _ _).alloc (Nat.le_refl _) _
      have hfin : DidP y m md [⟨a, r, Ot.none⟩] w.heap.size w (.returned (.slice (some ⟨wc.heap.size, 0, none⟩) 1 1)) (wc.alloc (.cells (evC1 (⟨a, r, Ot.none⟩, ⟨.slice none 0 0, .slice none 0 0, .slice none 0 0⟩)).toArray 54)) := ⟨_, _, rfl, rfl, hev, hR.mp.post hb5⟩
      have hev2 : (evC1 (⟨a, r, Ot.none⟩, ⟨.slice none 0 0, .slice none 0 0, .slice none 0 0⟩)).toArray = #[.int .i64 a, .int .i64 r, .string ⟨#[]⟩, .bool false, .slice none 0 0, .slice none 0 0, .slice none 0 0] := rfl
      rw [hev2] at hfin
      clear hev hb5 hev2 HD HE hR hD hnd hr
      go_wp2
      go_ret
      exact ⟨hfin, hp.out⟩
/-- A call that leaves a node as it was. -/
theorem StP.same {x : SG} {s : Stn} {z : St} {w w' : World} (h : StM x s w) (hz : s.nd = some z) (nn : Nn x.N x.g z x.TL w') (fx : Fx (Ft x.N x.g z) w w') : StP x s s w w' := by
  obtain ⟨n0, _⟩ := h.nd z hz
  have hB : ¬ Ft x.N x.g z x.B := fun hk => by
    obtain ⟨o, ho, hK⟩ := n0.kind hk
    rw [h.blk] at ho
    cases ho
    exact hK.not (by decide)
  have hJ : ∀ k, x.jv.ownBlock = some k → ¬ Ft x.N x.g z k := fun k hk hf => by
    obtain ⟨o, ho, hK⟩ := n0.kind hf
    obtain ⟨cc, hc⟩ := row_obj h.row hk
    rw [hc] at ho
    cases ho
    exact hK.not (by decide)
  refine ⟨x, rfl, ⟨(fx.block _ (some_lt h.blk) hB).trans h.blk, h.hl, row_at h.row fun k hk => fx.block k (h.row.lt k hk).2 (hJ k hk), fun u hu => ?_⟩, fx.mono fun k hk => .inr (.inr ⟨z, hz, hk⟩), fun k hk => .inl hk⟩
  cases hz.symm.trans hu
  exact ⟨nn, (h.nd z hz).2⟩

set_option maxRecDepth 100000 in
set_option maxHeartbeats 8000000 in
theorem M_send {y : MG} {m : Msh} {w : World} (h : MM y m w) {κ : Int} {q : Nat} (hok : MOk κ q m) (hκ : 0 ≤ κ ∧ κ ≤ 90000000000) (hq : q ≤ 4999) (a b : Nat) (ha : a < m.S.length) (hb : b < m.S.length) (t : ByteArray) (hr : m.runs a = true) :
    Calls Tryz.prog 30 #[.pointer (some ⟨y.G, 0, none⟩), .int .i64 a, .int .i64 b, .string t] w fun e w' => DidP y m (m.send a b t).1 (m.send a b t).2 w.heap.size w e w' ∧ MOk (κ + 200000) (q + 1) (m.send a b t).1 := by
  obtain ⟨xa, sa, g, c, e1, e2, e3, e4, p0⟩ := h.get ha
  obtain ⟨xb, sb, g', c', f1, f2, f3, f4, p1⟩ := h.get hb
  obtain ⟨z, hz⟩ : ∃ z, sa.nd = some z := by
    unfold Msh.runs at hr
    rw [Int.toNat_natCast, e3] at hr
    exact Option.isSome_iff_exists.1 (Bool.and_eq_true_iff.1 hr).2
  have hnd : (m.at' a).nd = some z := by rw [e3]; exact hz
  have hnk := (hok.at e2).nd z hz
  have hml := (hok.at f2).addr
  have HNo : ∀ r, ((16 < t.size ∧ r = 6) ∨ (t.size ≤ 16 ∧ ((m.at' b).addr = z.me ∨ (m.at' b).addr = 0) ∧ r = 2)) → ∀ x s, y.L[a]? = some x → m.S[a]? = some s → ∀ W5, Below w.heap.size w W5 → Calls Tryz.prog 21 #[.pointer (some ⟨x.N, 0, none⟩), .int .u64 m.now, .int .u32 (m.at' b).addr, .string t] W5 fun e w2 => ∃ af kf ac kc ad kd, e = .returned (.tuple #[.agg #[.string ⟨#[]⟩, .bool false, .slice af ([] : List (Int × ByteArray)).length kf, .slice ac ([] : List (Int × ByteArray)).length kc, .slice ad ([] : List Int).length kd], .int .i64 r]) ∧ Fx (Ft x.N x.g z) W5 w2 ∧ SndR True y m m w [] [] [] (.slice af ([] : List (Int × ByteArray)).length kf) (.slice ac ([] : List (Int × ByteArray)).length kc) (.slice ad ([] : List Int).length kd) w2 := by
    intro r hc x s g1 g2 W5 hb5
    cases e1.symm.trans g1
    cases e2.symm.trans g2
    have h5 := h.later hb5
    have hst := h5.st a xa sa e1 e2
    obtain ⟨nn, _⟩ := hst.nd z hz
    refine (N_SendNo nn hnk.inv.lk m.now (m.at' b).addr t r hc).mono ?_
    rintro e w2 ⟨rfl, n2, fx⟩
    have hp := h5.stp e1 e2 (StP.same hst hz n2 fx)
    have hpe : m.put a sa = m := by
      unfold Msh.put
      rw [show m.S.set a sa = m.S from by
        rw [← (List.getElem?_eq_some_iff.1 e2).2]
        exact List.set_getElem_self _]
    rw [hpe] at hp
    exact ⟨none, 0, none, 0, none, 0, rfl, fx, hp.pre hb5, ⟨⟨rfl, .inl ⟨rfl, rfl⟩⟩, ⟨rfl, .inl ⟨rfl, rfl⟩⟩, ⟨rfl, .inl ⟨rfl, rfl⟩⟩⟩, trivial⟩
  by_cases h16 : 16 < t.size
  · have ho : m.send a b t = (m, [⟨a, 6, Ot.none⟩]) := by
      unfold Msh.send
      rw [hnd]
      dsimp only
      rw [if_pos h16]
    rw [ho]
    refine (send_walk h a b ha hb t 6 (.inr (.inl rfl)) ⟨#[]⟩ false [] [] [] hnd (HNo 6 (.inl ⟨h16, rfl⟩)) (fun e => absurd e (by decide)) (fun _ => ⟨rfl, rfl⟩)).mono ?_
    intro e w2 hp
    exact ⟨hp.1, hok.up (by omega) (Nat.le_succ _)⟩
  · by_cases hd : (m.at' b).addr = z.me ∨ (m.at' b).addr = 0
    · have ho : m.send a b t = (m, [⟨a, 2, Ot.none⟩]) := by
        unfold Msh.send
        rw [hnd]
        dsimp only
        rw [if_neg h16, if_pos hd]
      rw [ho]
      refine (send_walk h a b ha hb t 2 (.inr (.inr rfl)) ⟨#[]⟩ false [] [] [] hnd (HNo 2 (.inr ⟨by omega, hd, rfl⟩)) (fun e => absurd e (by decide)) (fun _ => ⟨rfl, rfl⟩)).mono ?_
      intro e w2 hp
      exact ⟨hp.1, hok.up (by omega) (Nat.le_succ _)⟩
    · obtain ⟨zs, hzs⟩ : ∃ zs, z.snd m.now (m.at' b).addr t = zs := ⟨_, rfl⟩
      have ho : m.send a b t = (m.put a { sa with nd := some zs }).did a zs.ot := by
        unfold Msh.send
        rw [hnd]
        dsimp only
        rw [if_neg h16, if_neg hd, hzs, act_eq e2]
      have hdd : ∀ W5, Below w.heap.size w W5 → ∀ o w2, CallP xa.N xa.g z zs W5 o w2 → zs.Inv (κ + 1) → ∃ frm cam drp y2, o = outV zs.jrn zs.rep frm cam drp ∧ OutR W5.heap.size zs.frs zs.cms zs.drs frm cam drp w2 ∧ MM y2 (m.put a { sa with nd := some zs }) w2 ∧ MU y m y2 (m.put a { sa with nd := some zs }) W5 w2 ∧ DOk (κ + 1) (q + 1) (m.put a { sa with nd := some zs }) a zs := by
        intro W5 hb5 o w2 hcp hI2
        obtain ⟨k5, s', hp1, hp2⟩ := snd_prs z m.now (m.at' b).addr t
        have hrest := prs_rest hp1
        have hcnt := cnt_call hp1
        rw [← hp2, hzs] at hrest hcnt
        exact act_pre (h.later hb5) hok e1 e2 hz hcp hI2 (by rw [← hzs]; exact pos_snd hnk.pos hnk.inv.tl.1 _ _ _) hrest.1 hrest.2 (Nat.le_succ q) (by rw [← hzs]; exact Nat.le_trans (snd_Ql _ _ _ _) (Nat.succ_le_succ hnk.ql)) hcnt
      rw [ho]
      obtain ⟨m', hm'⟩ : ∃ m', m.put a { sa with nd := some zs } = m' := ⟨_, rfl⟩
      rw [hm'] at hdd ⊢
      refine (send_walk (p := DOk (κ + 1) (q + 1) m' a zs) (m' := m') (md := (m'.did a zs.ot).1) (evs := (m'.did a zs.ot).2) h a b ha hb t 0 (.inl rfl) zs.jrn zs.rep zs.frs zs.cms zs.drs hnd ?_ ?_ (fun e => absurd rfl e)).mono ?_
      · intro x s g1 g2 W5 hb5
        cases e1.symm.trans g1
        cases e2.symm.trans g2
        obtain ⟨nn, tm⟩ := ((h.later hb5).st a xa sa e1 e2).nd z hz
        refine (N_Send nn hnk.inv (by omega) tm m.now (m.at' b).addr t ⟨hnk.nw, hok.now.2⟩ (by rw [f3]; exact hml) (by omega) (fun e => hd (.inl e)) (fun e => hd (.inr e)) (Nat.le_trans hnk.ql hq)).mono ?_
        rintro e w2 ⟨o, rfl, hI2, hcp⟩
        rw [hzs] at hI2 hcp
        have hfx : Fx (Ft xa.N xa.g z) W5 w2 := by
          obtain ⟨_, _, _, _, _, _, _, _, _, _, _, fx, _⟩ := hcp
          exact fx
        obtain ⟨frm, cam, drp, y2, rfl, hor, hm2, hu2, hdk⟩ := hdd W5 hb5 o w2 hcp hI2.out
        obtain ⟨af, kf, rfl, _⟩ := row_form hor.frm
        obtain ⟨ac, kc, rfl, _⟩ := row_form hor.cam
        obtain ⟨ad, kd, rfl, _⟩ := row_form hor.drp
        exact ⟨af, kf, ac, kc, ad, kd, rfl, hfx, ⟨y2, hm2, hu2.pre hb5⟩, hor.lower hb5.size, hdk⟩
      · intro _ frm cam drp W hR
        obtain ⟨⟨y2, hm2, hu2⟩, hor, hdk⟩ := hR
        have hd2 := M_didA hm2 hdk frm cam drp w.heap.size hor hu2.fx.size
        rw [hu2.G] at hd2
        refine hd2.mono ?_
        rintro e w3 ⟨v2, L2, rfl, hL2, hev2, y3, hm3, hu3⟩
        exact ⟨v2, L2, rfl, hL2, hev2, y3, hm3, hu2.trans hu3⟩
      · rintro e w2 ⟨hp, hdk⟩
        exact ⟨hp, (did_ok hdk).up (by omega) (Nat.le_refl _)⟩
end Go.Proofs.YtakaadcpaeiccabGreat

namespace Go.Proofs.YtakaadcpaeiccabGreat
open Go

/-! A region whose last calls may turn what its loads read: the loads are taken first. -/
section
variable {P : Program} {ops : Array Oper} {Q : Exit → Act → World → Prop} {md : Region.Mode} {S : World → Prop} {U : List Nat}
/-- Whatever order is picked from here on, and S holds behind every operation that is not a late one. -/
def wpAnyD (P : Program) (md : Region.Mode) (ops : Array Oper) (Q : Exit → Act → World → Prop) (S : World → Prop) (U : List Nat) : Nat → Array Bool → Act → World → Prop
  | 0, listed, a, w => Region.ready md ops listed = [] ∧ Q .normal a w
  | fuel + 1, listed, a, w =>
    (Region.ready md ops listed = [] → Q .normal a w) ∧
    ∀ i ∈ Region.ready md ops listed, wpOp P ops Q i (fun a' w' => (i ∉ U → S w') ∧ wpAnyD P md ops Q S U fuel (listed.setIfInBounds i true) a' w') a w
theorem wpAny_of_late : ∀ (fuel : Nat) (listed : Array Bool) (a : Act) (w : World), wpAnyD P md ops Q S U fuel listed a w → wpAny P md ops Q fuel listed a w
  | 0, _, _, _, h => h
  | fuel + 1, _, _, _, h => ⟨h.1, fun _ hi => wpOp_mono (fun a' w' h' => wpAny_of_late fuel _ a' w' h'.2) (h.2 _ hi)⟩
/-- V waits for i. -/
def Late (md : Region.Mode) (ops : Array Oper) (listed : Array Bool) (i : Nat) (V : List Nat) : Prop :=
  ∀ u ∈ V, listed.getD u true = false ∧ ∃ o, ops[u]? = some o ∧ ∃ e ∈ o.after, Region.binds md e = true ∧ (e.on = i ∨ e.on ∈ V)
theorem unlisted_not {listed : Array Bool} {k : Nat} (h0 : listed.getD k true = false) (h1 : listed.getD k false = true) : False := by
  rcases Nat.lt_or_ge k listed.size with h' | h'
  · simp [h'] at h0 h1
    rw [h0] at h1
    cases h1
  · simp [Array.getElem?_eq_none h'] at h1
theorem Late.not {listed : Array Bool} {i : Nat} {V : List Nat} (h : Late md ops listed i V) (hi : i ∈ Region.ready md ops listed) {j : Nat} (hj : j ∈ Region.ready md ops listed) : j ∉ V := fun hv => by
  obtain ⟨_, o, ho, e, he, hb, hon⟩ := h j hv
  obtain ⟨_, o', ho', hall⟩ := mem_ready.1 hj
  rw [ho] at ho'
  cases ho'
  have h1 := hall e he hb
  rcases hon with hon | hon
  · rw [hon] at h1
    exact unlisted_not (mem_ready.1 hi).1 h1
  · exact unlisted_not (h _ hon).1 h1
theorem wpAnyD_first {i : Nat} {oi : Oper} {v : Value} (hi : ops[i]? = some oi) (hsel : ∀ (j : Nat) (o : Oper) cs b, ops[j]? = some o → o.op ≠ .select cs b)
    (hQ : ∀ c a w, Q (.panic c) (a.put oi.dst v) w → Q (.panic c) a w) {V : List Nat} (hUV : ∀ u ∈ U, u ∈ V) :
    ∀ (fuel : Nat) (listed : Array Bool) (a : Act) (w : World),
      (∀ j oj, ops[j]? = some oj → j ≠ i → listed.getD j true = false → (∀ e ∈ oj.after, Region.binds md e = true → e.on ≠ i) → oi.apart ops oj = true) →
      Late md ops listed i V → i ∈ Region.ready md ops listed → YieldsIf P ops S oi v a → S w →
      wpAnyD P md ops Q S U fuel (listed.setIfInBounds i true) (a.put oi.dst v) w → wpAnyD P md ops Q S U (fuel + 1) listed a w := by
  intro fuel
  induction fuel with
  | zero =>
    intro listed a w _ _ hr hy hS H
    refine ⟨fun h => (by rw [h] at hr; cases hr), fun j hj => ?_⟩
    by_cases hji : j = i
    · subst hji
      exact hy.wpOp hi hS ⟨fun _ => hS, H⟩
    · have := ready_mono hj hji
      rw [H.1] at this
      cases this
  | succ fuel ih =>
    intro listed a w hfree hV hr hy hS H
    refine ⟨fun h => (by rw [h] at hr; cases hr), fun j hj => ?_⟩
    by_cases hji : j = i
    · subst hji
      exact hy.wpOp hi hS ⟨fun _ => hS, H⟩
    · have h1 := H.2 j (ready_mono hj hji)
      have hjV := hV.not hr hj
      obtain ⟨hjun, oj, hoj, hall⟩ := mem_ready.1 hj
      have hnot : ∀ e ∈ oj.after, Region.binds md e = true → e.on ≠ i := fun e he hb heq => by
        have h1 := hall e he hb
        rw [heq] at h1
        exact unlisted_not (mem_ready.1 hr).1 h1
      have h2 := wpOp_putIf hoj (hfree j oj hoj hji hjun hnot) (fun cs b => hsel i oi cs b hi) (fun cs b => hsel j oj cs b hoj) hQ hy h1
      have hfree' : ∀ k ok, ops[k]? = some ok → k ≠ i → (listed.setIfInBounds j true).getD k true = false →
          (∀ e ∈ ok.after, Region.binds md e = true → e.on ≠ i) → oi.apart ops ok = true := fun k ok hk hki hun hno => by
        refine hfree k ok hk hki ?_ hno
        by_cases hjk : j = k
        · subst hjk
          exact hjun
        · rw [getD_set_ne true hjk] at hun
          exact hun
      have hV' : Late md ops (listed.setIfInBounds j true) i V := fun u hu => by
        obtain ⟨h5, h6⟩ := hV u hu
        have hne : j ≠ u := fun e => hjV (by rw [e]; exact hu)
        refine ⟨?_, h6⟩
        rw [getD_set_ne true hne]
        exact h5
      refine wpOp_mono (fun a' w' h3 => ?_) h2
      have hS3 := h3.2.1 (fun hu => hjV (hUV j hu))
      refine ⟨fun _ => hS3, ih (listed.setIfInBounds j true) a' w' hfree' hV' (ready_mono hr (Ne.symm hji)) h3.1 hS3 ?_⟩
      rw [Array.setIfInBounds_comm _ _ hji]
      exact h3.2.2
/-- What waits for i, found in the order of the text. -/
def lateV (md : Region.Mode) (ops : Array Oper) (listed : Array Bool) (i : Nat) : List Nat :=
  (List.range ops.size).foldl (fun acc u => if !listed.getD u true && (match ops[u]? with | some o => o.after.any fun e => Region.binds md e && (e.on == i || acc.contains e.on) | none => false) then acc ++ [u] else acc) []
def lateB (md : Region.Mode) (ops : Array Oper) (listed : Array Bool) (i : Nat) (U V : List Nat) : Bool :=
  U.all (fun u => V.contains u) && V.all fun u => !listed.getD u true && (match ops[u]? with | some o => o.after.any fun e => Region.binds md e && (e.on == i || V.contains e.on) | none => false)
theorem late_of {listed : Array Bool} {i : Nat} {V : List Nat} (h : lateB md ops listed i U V = true) : (∀ u ∈ U, u ∈ V) ∧ Late md ops listed i V := by
  obtain ⟨h1, h2⟩ := Bool.and_eq_true_iff.1 h
  refine ⟨fun u hu => by simpa using List.all_eq_true.1 h1 u hu, fun u hu => ?_⟩
  obtain ⟨h3, h4⟩ := Bool.and_eq_true_iff.1 (List.all_eq_true.1 h2 u hu)
  refine ⟨by simpa using h3, ?_⟩
  cases ho : ops[u]? with
  | none =>
    rw [ho] at h4
    cases h4
  | some o =>
    rw [ho] at h4
    dsimp only at h4
    obtain ⟨e, he, hb⟩ := Array.any_eq_true'.1 h4
    obtain ⟨hb1, hb2⟩ := Bool.and_eq_true_iff.1 hb
    exact ⟨o, rfl, e, he, hb1, by simpa using hb2⟩
/-- Take number 'i' first. -/
theorem wpAnyD_take {i : Nat} {oi : Oper} {v : Value} {fuel : Nat} {listed : Array Bool} {a : Act} {w : World} (hi : ops[i]? = some oi)
    (hs : Region.noSelect ops = true) (hf : Region.free md ops listed i = true) (hr : (Region.ready md ops listed).contains i = true) (hl : lateB md ops listed i U (lateV md ops listed i) = true)
    (hQ : ∀ c a w, Q (.panic c) (a.put oi.dst v) w → Q (.panic c) a w) (hy : YieldsIf P ops S oi v a) (hS : S w)
    (h : wpAnyD P md ops Q S U fuel (listed.setIfInBounds i true) (a.put oi.dst v) w) : wpAnyD P md ops Q S U (fuel + 1) listed a w :=
  wpAnyD_first hi (Region.noSelect_spec hs) hQ (late_of hl).1 fuel listed a w (Region.free_spec hi hf) (late_of hl).2 (by simpa using hr) hy hS h
/-- One alone may come up, a late one or no more load to come: nothing is to be held behind it. -/
theorem wpAnyD_one {i : Nat} {o : Oper} {fuel : Nat} {listed : Array Bool} {a : Act} {w : World} (hr : Region.ready md ops listed = [i]) (ho : ops[i]? = some o)
    (h : ∀ K' : Act → World → Prop, Shut (∀ a w, (i ∉ U → S w) → wpAnyD P md ops Q S U fuel (listed.setIfInBounds i true) a w → K' a w) → if Region.wanted o (yielded ops a.tmps) = true then Oper.wp P o a w K' Q else K' (a.put o.dst undef) w) : wpAnyD P md ops Q S U (fuel + 1) listed a w := by
  refine ⟨fun h0 => absurd (hr ▸ h0) (by simp), fun j hj => ?_⟩
  rw [hr, List.mem_singleton] at hj
  subst hj
  exact wpOp_step ho (fun K' hK => h K' (fun a w hS hW => hK a w ⟨hS, hW⟩))
theorem wpAnyD_done {listed : Array Bool} {a : Act} {w : World} (hr : Region.ready md ops listed = []) (h : Q .normal a w) : ∀ fuel, wpAnyD P md ops Q S U fuel listed a w
  | 0 => ⟨hr, h⟩
  | _ + 1 => ⟨fun _ => h, by rw [hr]; simp⟩
theorem wp_region_late {id : Nat} {a : Act} {w : World} (S : World → Prop) (U : List Nat) (hm : P.follows .mixedOrders = true) (hS : S w.drew)
    (h : S w.drew → wpAnyD P .any ops Q S U ops.size (Array.replicate ops.size false) a w.drew) : (Code.region id ops true).wp P Q a w :=
  wp_region_any hm (wpAny_of_late _ _ _ _ (h hS))
end
end Go.Proofs.YtakaadcpaeiccabGreat
