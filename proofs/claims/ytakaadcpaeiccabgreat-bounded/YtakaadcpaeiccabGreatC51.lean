import Derived.Test.YtakaadcpaeiccabGreatC50
import Derived.Test.YtakaadcpaeiccabGreatC46
namespace Go.Proofs.YtakaadcpaeiccabGreat
open Go.RowKit Go.Maps

/-! What a node does takes its effect. -/
/-- One frame more. -/
def didF (φ : Msh → Int × ByteArray → Msh × List Ev) (z : Msh × List Ev) (f : Int × ByteArray) : Msh × List Ev := ((φ z.1 f).1, z.2 ++ (φ z.1 f).2)
/-- Where a mesh stands when k frames have gone out. -/
def didK (φ : Msh → Int × ByteArray → Msh × List Ev) (m : Msh) (i : Nat) (o : Ot) (k : Nat) : Msh × List Ev := (o.frs.take k).foldl (didF φ) (m.put i ((m.at' i).write o).1, [⟨i, 0, o⟩])
theorem didK_succ (φ : Msh → Int × ByteArray → Msh × List Ev) (m : Msh) (i : Nat) (o : Ot) {k : Nat} {f : Int × ByteArray} (h : o.frs[k]? = some f) : didK φ m i o (k + 1) = didF φ (didK φ m i o k) f := by
  unfold didK
  rw [List.take_add_one, h, List.foldl_append]
  rfl
theorem didK_len {φ : Msh → Int × ByteArray → Msh × List Ev} (hφ : ∀ m f, (φ m f).2.length ≤ 1) (m : Msh) (i : Nat) (o : Ot) : ∀ k, k ≤ o.frs.length → (didK φ m i o k).2.length ≤ 1 + k
  | 0, _ => by
    unfold didK
    simp
  | k + 1, hk => by
    rw [didK_succ φ m i o (List.getElem?_eq_getElem (by omega))]
    have h1 := didK_len hφ m i o k (by omega)
    have h2 := hφ (didK φ m i o k).1 o.frs[k]
    unfold didF
    rw [List.length_append]
    omega
theorem didW_all (φ : Msh → Int × ByteArray → Msh × List Ev) (m : Msh) (i : Nat) (o : Ot) (h1 : o.idle = false) (h2 : ((m.at' i).write o).2 = true) : m.didW φ i o = didK φ m i o o.frs.length := by
  unfold Msh.didW didK
  rw [if_neg (by simp [h1]), if_pos h2, List.take_length]
  rfl
theorem idle_eq (o : Ot) : o.idle = (decide (o.nws = []) && !o.rep && decide (o.frs.length + o.cms.length + o.drs.length = 0)) := by
  unfold Ot.idle
  cases o.nws <;> cases o.frs <;> cases o.cms <;> cases o.drs <;> cases o.rep <;> simp
theorem frm_get {b : Nat} {frs cms : List (Int × ByteArray)} {drs : List Int} {a : Option Addr} {n c : Nat} {cam drp : Value} {W : World} (h : OutR b frs cms drs (.slice a n c) cam drp W) (hn : n = frs.length) {k : Nat} {f : Int × ByteArray} (hf : frs[k]? = some f) : ∃ g, a = some ⟨g, 0, none⟩ ∧ W.cell? ⟨g, k * 2, none⟩ = some (.int .u32 f.1) ∧ W.cell? ⟨g, k * 2 + 1, none⟩ = some (.string f.2) := by
  subst hn
  have hk := (List.getElem?_eq_some_iff.1 hf).1
  obtain ⟨g, cap, e, _⟩ := row_shape' h.frm (by omega)
  cases e
  have hat : ∀ i u, i < 2 → ([.int .u32 f.1, .string f.2] : List Value)[i]? = some u → (FrC frs)[k * 2 + i]? = some u := fun i u hi hu => (flat_at (fun x : Int × ByteArray => ([Value.int .u32 x.1, Value.string x.2] : List Value)) 2 (by decide) (fun _ => rfl) frs k i hi hf).trans hu
  exact ⟨g, rfl, (h.frm.cellAt (k * 2) (by omega)).trans (hat 0 _ (by decide) rfl), (h.frm.cellAt (k * 2 + 1) (by omega)).trans (hat 1 _ (by decide) rfl)⟩

set_option maxRecDepth 100000 in
set_option maxHeartbeats 8000000 in
theorem M_did {y : MG} {m : Msh} {w : World} (h : MM y m w) (i : Nat) (hi : i < m.S.length) (hn : m.S.length ≤ 6) (φ : Msh → Int × ByteArray → Msh × List Ev) (o : Ot) (frm cam drp : Value) (b : Nat) (hor : OutR b o.frs o.cms o.drs frm cam drp w) (hb : b ≤ w.heap.size)
    (hbd : RBd o.nws) (hnw : o.nws.length ≤ 50000) (hfr : o.frs.length ≤ 100000 ∧ o.cms.length ≤ 100000 ∧ o.drs.length ≤ 100000) (hjl : (m.at' i).jrn.length ≤ 1000000) (hwh : 0 ≤ (m.at' i).whole) (hφ : ∀ m f, (φ m f).2.length ≤ 1)
    (HS : ∀ k f, o.frs[k]? = some f → o.idle = false → ((m.at' i).write o).2 = true → ∀ y1 w1, MM y1 (didK φ m i o k).1 w1 → Calls Tryz.prog 67 #[.pointer (some ⟨y1.G, 0, none⟩), .int .i64 i, .agg #[.int .u32 f.1, .string f.2]] w1 (DidP y1 (didK φ m i o k).1 (φ (didK φ m i o k).1 f).1 (φ (didK φ m i o k).1 f).2 w1.heap.size w1)) :
    Calls Tryz.prog 36 #[.pointer (some ⟨y.G, 0, none⟩), .int .i64 i, outV (strOfNums (flatR o.nws)) o.rep frm cam drp] w (DidP y m (m.didW φ i o).1 (m.didW φ i o).2 b w) := by
  obtain ⟨i0, hi0, hz0, hz1, hz2⟩ := info_parts info_ev
  obtain ⟨af, kf, rfl, _⟩ := row_form hor.frm
  obtain ⟨ac, kc, rfl, _⟩ := row_form hor.cam
  obtain ⟨ad, kd, rfl, _⟩ := row_form hor.drp
  obtain ⟨j1, j2⟩ := jrn_size hbd
  obtain ⟨j, hj⟩ : ∃ j, strOfNums (flatR o.nws) = j := ⟨_, rfl⟩
  have hidle := idle_eq o
  have hjz : decide (o.nws = []) = decide (j.size = 0) := by
    rw [← hj, j2]
    cases o.nws <;> simp
  rw [hjz] at hidle
  rw [hj]
  have hb0 : Below w.heap.size w (w.alloc (.cells #[.string j, .bool o.rep, .slice af o.frs.length kf, .slice ac o.cms.length kc, .slice ad o.drs.length kd] 52)) := (Below.refl _ _).alloc (Nat.le_refl _) _
  have hC := heap_alloc_new w (.cells #[.string j, .bool o.rep, .slice af o.frs.length kf, .slice ac o.cms.length kc, .slice ad o.drs.length kd] 52)
  have h1 := h.later hb0
  have ho1 := hor.later hb0
  unfold outV
  go_enter Tryz.func36, Tryz.ntmps36
  go_upto_region 1 with (fail)
  generalize World.alloc _ _ = W1 at hb0 hC h1 ho1 ⊢
  have HN := hide (isNothing_any j o.rep af ac ad o.frs.length kf o.cms.length kc o.drs.length kd (by omega) W1)
  rw [← hidle] at HN
  unfold outV at HN
  have hlow := hb0.size
  obtain ⟨C, hCC⟩ : ∃ C, w.heap.size = C := ⟨_, rfl⟩
  have hC0 : w.heap.size ≤ C := by omega
  rw [hCC] at hC
  have t0 : W1.cell? ⟨C, 0, none⟩ = some (.string j) := cell_of_row _ _ 0 _ _ _ hC
  have t1 : W1.cell? ⟨C, 1, none⟩ = some (.bool o.rep) := cell_of_row _ _ 1 _ _ _ hC
  have t2 : W1.cell? ⟨C, 2, none⟩ = some (.slice af o.frs.length kf) := cell_of_row _ _ 2 _ _ _ hC
  have t3 : W1.cell? ⟨C, 3, none⟩ = some (.slice ac o.cms.length kc) := cell_of_row _ _ 3 _ _ _ hC
  have t4 : W1.cell? ⟨C, 4, none⟩ = some (.slice ad o.drs.length kd) := cell_of_row _ _ 4 _ _ _ hC
  rw [hCC]
  clear hCC h hor
  go_wp2_with fail
  refine Calls.mono HN.out ?_
  rintro e w2 ⟨rfl, hb2⟩
  have h2 := h1.later hb2
  have ho2 := ho1.later hb2
  have hC2 := (hb2.block _ (some_lt hC)).trans hC
  have hbb := hb0.trans (hb2.mono hb0.size)
  have hlow2 := hbb.size
  clear HN h1 ho1 hC t0 t1 t2 t3 t4 hb0 hb2 hlow
  cases hid : o.idle
  · have t0 : w2.cell? ⟨C, 0, none⟩ = some (.string j) := cell_of_row _ _ 0 _ _ _ hC2
    have t1 : w2.cell? ⟨C, 1, none⟩ = some (.bool o.rep) := cell_of_row _ _ 1 _ _ _ hC2
    have t2 : w2.cell? ⟨C, 2, none⟩ = some (.slice af o.frs.length kf) := cell_of_row _ _ 2 _ _ _ hC2
    have t3 : w2.cell? ⟨C, 3, none⟩ = some (.slice ac o.cms.length kc) := cell_of_row _ _ 3 _ _ _ hC2
    have t4 : w2.cell? ⟨C, 4, none⟩ = some (.slice ad o.drs.length kd) := cell_of_row _ _ 4 _ _ _ hC2
    obtain ⟨x, s, g, c, e1, e2, e3, e4, p0⟩ := h2.get hi
    have q1 := h2.cell.2.1
    rw [e4] at q1
    have hin : (i : Int) < (m.S.length : Int) := by omega
    rw [e3] at hjl hwh HS
    have hall := didW_all φ m i o hid
    have hno : (s.write o).2 = false → m.didW φ i o = (m.put i (s.write o).1, [⟨i, 0, Ot.none⟩]) := fun e => by
      unfold Msh.didW
      rw [if_neg (by simp [hid]), if_neg (by rw [e3, e]; simp), e3]
    rw [e3] at hall
    have hd1 : Below w2.heap.size w2 w2.drew := (Below.refl _ _).drew
    have hmd := h2.later hd1
    have HW := St_write (hmd.st i x s e1 e2) o (.slice af o.frs.length kf) (.slice ac o.cms.length kc) (.slice ad o.drs.length kd) hbd hnw hjl hwh
    rw [hj] at HW
    have HW2 : Hid (Calls Tryz.prog 62 #[.pointer (some ⟨x.B, 0, none⟩), .agg #[.string j, .bool o.rep, .slice af o.frs.length kf, .slice ac o.cms.length kc, .slice ad o.drs.length kd]] w2.drew fun e w' => e = .returned (.bool (s.write o).2) ∧ ∃ y', MM y' (m.put i (s.write o).1) w' ∧ MU y m y' (m.put i (s.write o).1) w w' ∧ OutR b o.frs o.cms o.drs (.slice af o.frs.length kf) (.slice ac o.cms.length kc) (.slice ad o.drs.length kd) w' ∧ w'.heap[C]? = some (.cells #[.string j, .bool o.rep, .slice af o.frs.length kf, .slice ac o.cms.length kc, .slice ad o.drs.length kd] 52)) := by
      refine HW.mono ?_
      rintro e w' ⟨rfl, hp⟩
      obtain ⟨y', hm', hu'⟩ := hmd.stp e1 e2 hp
      exact ⟨rfl, y', hm', ((MU.refl y m w).post hbb).trans (hu'.pre hd1), (ho2.later hd1).mesh hmd hu'.fx, (hu'.fx.block C (some_lt hC2) (hmd.not hC2 (by decide))).trans hC2⟩
    obtain ⟨s1, hs1⟩ : ∃ s1, (s.write o).1 = s1 := ⟨_, rfl⟩
    obtain ⟨ok, hok⟩ : ∃ ok, (s.write o).2 = ok := ⟨_, rfl⟩
    rw [hs1, hok] at HW2 hno
    rw [hok] at HS hall
    have hst0 : Hid (didK φ m i o 0 = (m.put i s1, [⟨i, 0, o⟩])) := by
      show _ = _
      unfold didK
      rw [e3, hs1]
      rfl
    clear HW hs1 hok e1 e2 e3 e4 h2 ho2 hd1 hmd hjl hwh hbd hnw j1 j2 hjz hidle hbb
    go_upto_region 3 with (fail)
    go_cut [21] from 12 to 21 (fun v W => v = .bool (!ok) ∧ ∃ y', MM y' (m.put i s1) W ∧ MU y m y' (m.put i s1) w W ∧ OutR b o.frs o.cms o.drs (.slice af o.frs.length kf) (.slice ac o.cms.length kc) (.slice ad o.drs.length kd) W ∧ W.heap[C]? = some (.cells #[.string j, .bool o.rep, .slice af o.frs.length kf, .slice ac o.cms.length kc, .slice ad o.drs.length kd] 52))
    case first =>
      clear HS hno hall hst0 hC2
      go_region_with (go_at_call 62; refine HW2.out.mono ?_; rintro e w3 ⟨rfl, hfin⟩)
      all_goals
        clear HW2
        go_wp2_with fail
        go_meet
        exact ⟨by cases ok <;> rfl, hfin⟩
    case rest =>
      obtain ⟨rfl, y', hm, hu, ho, hCb⟩ := hcut
      clear HW2 hC2 t0 t1 t2 t3 t4 p0 q1
      have hlow3 : w.heap.size ≤ wc.heap.size := hu.fx.size
      cases ok
      · have hev := ev_one (b := b) (W := wc) (x := (⟨i, 0, Ot.none⟩, ⟨.slice none 0 0, .slice none 0 0, .slice none 0 0⟩)) (by omega) ⟨⟨rfl, .inl ⟨rfl, rfl⟩⟩, ⟨rfl, .inl ⟨rfl, rfl⟩⟩, ⟨rfl, .inl ⟨rfl, rfl⟩⟩⟩
        have hb5 : Below wc.heap.size wc (wc.alloc (.cells (evC1 (⟨i, 0, Ot.none⟩, ⟨.slice none 0 0, .slice none 0 0, .slice none 0 0⟩)).toArray 54)) := (Below.refl _ _).alloc (Nat.le_refl _) _
        have hfin : DidP y m (m.didW φ i o).1 (m.didW φ i o).2 b w (.returned (.slice (some ⟨wc.heap.size, 0, none⟩) 1 1)) (wc.alloc (.cells (evC1 (⟨i, 0, Ot.none⟩, ⟨.slice none 0 0, .slice none 0 0, .slice none 0 0⟩)).toArray 54)) := by
          rw [hno rfl]
          exact ⟨_, _, rfl, rfl, hev, y', hm.later hb5, hu.post hb5⟩
        have hev2 : (evC1 (⟨i, 0, Ot.none⟩, ⟨.slice none 0 0, .slice none 0 0, .slice none 0 0⟩)).toArray = #[.int .i64 i, .int .i64 0, .string ⟨#[]⟩, .bool false, .slice none 0 0, .slice none 0 0, .slice none 0 0] := rfl
        rw [hev2] at hfin
        clear hev hb5 hno HS hall hst0 hm hu ho hCb hev2
        go_wp2
        go_ret
        exact hfin
      · have hev := ev_one (b := b) (W := wc) (x := (⟨i, 0, o⟩, ⟨.slice af o.frs.length kf, .slice ac o.cms.length kc, .slice ad o.drs.length kd⟩)) (by omega) ho
        have hev2 : (evC1 (⟨i, 0, o⟩, ⟨.slice af o.frs.length kf, .slice ac o.cms.length kc, .slice ad o.drs.length kd⟩)).toArray = #[.int .i64 i, .int .i64 0, .string j, .bool o.rep, .slice af o.frs.length kf, .slice ac o.cms.length kc, .slice ad o.drs.length kd] := by
          rw [← hj]
          rfl
        rw [hev2] at hev
        have hb5 : Below wc.heap.size wc (wc.alloc (.cells #[.int .i64 i, .int .i64 0, .string j, .bool o.rep, .slice af o.frs.length kf, .slice ac o.cms.length kc, .slice ad o.drs.length kd] 54)) := (Below.refl _ _).alloc (Nat.le_refl _) _
        have hrel0 : Hid (∃ y' L, MM y' (didK φ m i o 0).1 (wc.alloc (.cells #[.int .i64 i, .int .i64 0, .string j, .bool o.rep, .slice af o.frs.length kf, .slice ac o.cms.length kc, .slice ad o.drs.length kd] 54)) ∧ MU y m y' (didK φ m i o 0).1 w (wc.alloc (.cells #[.int .i64 i, .int .i64 0, .string j, .bool o.rep, .slice af o.frs.length kf, .slice ac o.cms.length kc, .slice ad o.drs.length kd] 54)) ∧ EvsM b (.slice (some ⟨wc.heap.size, 0, none⟩) 1 1) L (wc.alloc (.cells #[.int .i64 i, .int .i64 0, .string j, .bool o.rep, .slice af o.frs.length kf, .slice ac o.cms.length kc, .slice ad o.drs.length kd] 54)) ∧ L.map (·.1) = (didK φ m i o 0).2 ∧ (wc.alloc (.cells #[.int .i64 i, .int .i64 0, .string j, .bool o.rep, .slice af o.frs.length kf, .slice ac o.cms.length kc, .slice ad o.drs.length kd] 54)).ownsRow w.heap.size 54 7 (.slice (some ⟨wc.heap.size, 0, none⟩) 1 1) L.length (EvC L) ∧ OutR b o.frs o.cms o.drs (.slice af o.frs.length kf) (.slice ac o.cms.length kc) (.slice ad o.drs.length kd) (wc.alloc (.cells #[.int .i64 i, .int .i64 0, .string j, .bool o.rep, .slice af o.frs.length kf, .slice ac o.cms.length kc, .slice ad o.drs.length kd] 54))) := by
          show ∃ y' L, _
          rw [hst0.out]
          refine ⟨y', _, hm.later hb5, hu.post hb5, hev, rfl, ⟨rfl, .inr ⟨wc.heap.size, 1, _, rfl, hlow3, heap_alloc_new _ _, Nat.le_refl _, by decide, rfl, ?_⟩⟩, ho.later hb5⟩
          rw [← hj]
          rfl
        have t0 : wc.cell? ⟨C, 0, none⟩ = some (.string j) := cell_of_row _ _ 0 _ _ _ hCb
        have t1 : wc.cell? ⟨C, 1, none⟩ = some (.bool o.rep) := cell_of_row _ _ 1 _ _ _ hCb
        have t2 : wc.cell? ⟨C, 2, none⟩ = some (.slice af o.frs.length kf) := cell_of_row _ _ 2 _ _ _ hCb
        have t3 : wc.cell? ⟨C, 3, none⟩ = some (.slice ac o.cms.length kc) := cell_of_row _ _ 3 _ _ _ hCb
        have t4 : wc.cell? ⟨C, 4, none⟩ = some (.slice ad o.drs.length kd) := cell_of_row _ _ 4 _ _ _ hCb
        have hall2 := hide (hall rfl)
        have HS2 := hide (fun k f hf => HS k f hf hid rfl)
        clear hev hb5 hno HS hall hst0 hm hu ho hCb hev2 hj hid
        have u2 : (wc.alloc (.cells #[.int .i64 i, .int .i64 0, .string j, .bool o.rep, .slice af o.frs.length kf, .slice ac o.cms.length kc, .slice ad o.drs.length kd] 54)).cell? ⟨C, 2, none⟩ = some (.slice af o.frs.length kf) := (((Below.refl _ _).alloc (Nat.le_refl _) _ : Below wc.heap.size wc _).cell (World.block_lt_of_cell? _ _ t2)).trans t2
        go_upto_region 6 with (fail)
        generalize World.alloc _ _ = W5 at hrel0 u2 ⊢
        generalize wc.heap.size = E at hrel0 ⊢
        clear t0 t1 t2 t3 t4
        go_wp2_with fail
        go_loopw [7, 32] (fun ev iv wr => ∃ k : Nat, k ≤ o.frs.length ∧ iv = .int .i64 k ∧ Hid (∃ y' L, MM y' (didK φ m i o k).1 wr ∧ MU y m y' (didK φ m i o k).1 w wr ∧ EvsM b ev L wr ∧ L.map (·.1) = (didK φ m i o k).2 ∧ wr.ownsRow w.heap.size 54 7 ev L.length (EvC L) ∧ OutR b o.frs o.cms o.drs (.slice af o.frs.length kf) (.slice ac o.cms.length kc) (.slice ad o.drs.length kd) wr)) (fun _ iv _ => o.frs.length - (intOf iv).toNat)
        case atStart => exact ⟨0, Nat.zero_le _, rfl, hrel0⟩
        case round =>
          clear hrel0
          obtain ⟨k, hk, rfl, hr⟩ := hrel
          by_cases hkl : k < o.frs.length
          · have hki : (k : Int) < (o.frs.length : Int) := by omega
            obtain ⟨y1, L, hm, hu, hev, hL, hrw, ho⟩ := hr.out
            obtain ⟨f, hf⟩ : ∃ f, o.frs[k]? = some f := ⟨_, List.getElem?_eq_getElem hkl⟩
            obtain ⟨g5, rfl, d0, d1⟩ := frm_get ho rfl hf
            have hbx : Below wr.heap.size wr (wr.alloc (.cells #[.int .u32 f.1, .string f.2] 77)) := (Below.refl _ _).alloc (Nat.le_refl _) _
            have hm1 := hm.later hbx
            have hHS := HS2.out k f hf y1 _ hm1
            rw [hu.G] at hHS
            have hlen := didK_len hφ m i o k hk
            rw [← hL, List.length_map] at hlen
            have hφk := hφ (didK φ m i o k).1 f
            have hsucc := didK_succ φ m i o hf
            have hev1 := hev.later hbx
            have ho1 := ho.later hbx
            have hu1 := hu.post hbx
            have hHS2 : Hid (Calls Tryz.prog 67 #[.pointer (some ⟨y.G, 0, none⟩), .int .i64 i, .agg #[.int .u32 f.1, .string f.2]] (wr.alloc (.cells #[.int .u32 f.1, .string f.2] 77)) fun e w3 => ∃ v2 L2 n2, e = .returned v2 ∧ L2.length = n2 ∧ n2 ≤ 1 ∧ w3.ownsRow w.heap.size 54 7 u7 L.length (EvC L) ∧ w3.ownsRow wr.heap.size 54 7 v2 n2 (EvC L2) ∧ (∀ u ∈ EvC L2, u.oneCell' = true) ∧ w.heap.size ≤ w3.heap.size ∧ ∀ v' w', w'.ownsRow w.heap.size 54 7 v' (L.length + n2) (EvC L ++ EvC L2) → w3.grownBy w' u7.ownBlock → ∃ y' L, MM y' (didK φ m i o (k + 1)).1 w' ∧ MU y m y' (didK φ m i o (k + 1)).1 w w' ∧ EvsM b v' L w' ∧ L.map (·.1) = (didK φ m i o (k + 1)).2 ∧ w'.ownsRow w.heap.size 54 7 v' L.length (EvC L) ∧ OutR b o.frs o.cms o.drs (.slice (some ⟨g5, 0, none⟩) o.frs.length kf) (.slice ac o.cms.length kc) (.slice ad o.drs.length kd) w') := by
              refine hHS.mono ?_
              rintro e w3 ⟨v2, L2, rfl, hL2, hev2, y2, hm2, hu2⟩
              have hl2 : L2.length ≤ 1 := by
                have := congrArg List.length hL2
                rw [List.length_map] at this
                omega
              have hevw := hev1.mesh hm1 hu2.fx
              have how := ho1.mesh hm1 hu2.fx
              have hz1 := hbx.size
              have hz2 := hu2.fx.size
              have hz3 := (hu1.trans hu2).fx.size
              have hz0 := hu.fx.size
              have hrw3 : w3.ownsRow w.heap.size 54 7 u7 L.length (EvC L) := row_at (row_at hrw fun k5 hk5 => hbx.block k5 (hrw.lt k5 hk5).2) fun k5 hk5 => by
                obtain ⟨cc, hc5⟩ := row_obj hrw hk5
                have hc6 := (hbx.block k5 (some_lt hc5)).trans hc5
                exact hu2.fx.block k5 (some_lt hc6) (hm1.notE (by decide) hc6)
              refine ⟨v2, L2, _, rfl, rfl, hl2, hrw3, (hev2.lower hz1).row, hev2.one, hz3, fun v' w' ho' hg' => ?_⟩
              have hbE : ∀ k5, MIn y2 (φ (didK φ m i o k).1 f).1 k5 → w'.heap[k5]? = w3.heap[k5]? := fun k5 hk5 => hg'.block k5 (hm2.lt hk5) fun e5 => by
                obtain ⟨cc, hc5⟩ := row_obj hevw.row e5.symm
                exact hm2.notE (by decide) hc5 hk5
              rw [hsucc]
              refine ⟨y2, L ++ L2, hm2.kept hbE, ⟨grown_Fx (hu1.trans hu2).fx hg' (fun j5 hj5 e5 => ?_), fun k5 hk5 => ((hu1.trans hu2).sub k5 hk5).imp_right fun h => ⟨h.1, Nat.lt_of_lt_of_le h.2 hg'.size⟩, (hu1.trans hu2).G, (hu1.trans hu2).n, (hu1.trans hu2).sv, (hu1.trans hu2).B⟩, ?_, ?_, by rw [List.length_append, EvC_append]; exact ho', how.at fun k5 c5 t5 ht5 hk5 => hg'.block k5 (some_lt hk5) fun e5 => ?_⟩
              · have := (hrw.lt j5 e5).1
                omega
              · exact hevw.append hev2 (by omega) (fun x hx k5 hk5 => by have := (hev.out x hx).lt hk5; omega) (ownsRow_base_a ho' hb) hg'
              · rw [List.map_append, hL, hL2]
                rfl
              · obtain ⟨cc, hc5⟩ := row_obj hevw.row e5.symm
                rw [hk5] at hc5
                cases hc5
                exact absurd ht5 (by decide)
            have hrowl : Hid (∀ n2, n2 ≤ 1 → L.length + n2 ≤ maxLen ∧ (L.length + n2) * 112 ≤ 140737488355328) := fun n2 h2 => by unfold maxLen; omega
            have hme := meas_lt hkl
            have hk1 : k + 1 ≤ o.frs.length := by omega
            have hw64 : wrap64 ((k : Int) + 1) = (k : Int) + 1 := by unfold wrap64; omega
            obtain ⟨f1, f2⟩ := f
            dsimp only at d0 d1 hHS2
            clear hr hm hu hev hL ho hm1 hHS hlen hφk hsucc hev1 ho1 hu1 hf hbx hrw hfr hb
            go_wp2_with fail
            refine Calls.mono hHS2.out ?_
            rintro e w3 ⟨v2, L2, n2, rfl, hn2, hn21, hr1, hr2, h1c, hbw, hnx⟩
            replace hnx := hide hnx
            replace hn2 := hide hn2
            obtain ⟨hmx1, hmx2⟩ := hrowl.out n2 hn21
            clear hHS2 hrowl
            go_wp2_with (at_builtin; refine wpList_append_rows rfl _ _ 29 rfl w.heap.size 54 i0 (.agg #[.int .i64 0, .int .i64 0, .string ⟨#[]⟩, .bool false, .slice none 0 0, .slice none 0 0, .slice none 0 0]) 7 112 Tryz.underlying29 hi0 hz0 hz1 hz2 rfl (by decide) u7 L.length (EvC L) rfl hr1 wr.heap.size v2 n2 (EvC L2) rfl hr2 h1c hmx1 hmx2 hbw ?_)
            intro v7 w7 ho7 hg7
            have hr7 := hide (hnx.out v7 w7 ho7 hg7)
            clear hnx ho7 hg7 hr1 hr2 h1c d0 d1
            go_wp2
            try rw [hw64]
            go_roundw
            case rel =>
              first
                | exact ⟨k + 1, hk1, by go_num, hr7⟩
                | exact ⟨_, _, ⟨k + 1, hk1, by go_num, hr7⟩, rfl⟩
                | (repeat apply Exists.intro
                   refine ⟨⟨k + 1, hk1, by go_num, hr7⟩, rfl⟩)
                | trace_state
            case measure => exact hme
          · obtain rfl : k = o.frs.length := by omega
            obtain ⟨y1, L, hm, hu, hev, hL, hrw, ho⟩ := hr.out
            have hfin : DidP y m (m.didW φ i o).1 (m.didW φ i o).2 b w (.returned u7) wr := by
              rw [hall2.out]
              exact ⟨u7, L, rfl, hL, hev, y1, hm, hu⟩
            clear hr hm hu hev hL ho HS2 hall2 hrw
            go_wp2
            go_ret
            exact hfin
  · have hfin : DidP y m (m.didW φ i o).1 (m.didW φ i o).2 b w (.returned (.slice none 0 0)) w2 := by
      unfold Msh.didW
      rw [if_pos (by rw [hid])]
      exact ⟨_, [], rfl, rfl, EvsM.nil _ _, y, h2, (MU.refl y m w).post hbb⟩
    clear h2 ho2 hC2 HS hbb
    go_wp2
    go_ret
    exact hfin
end Go.Proofs.YtakaadcpaeiccabGreat

namespace Go.Proofs.YtakaadcpaeiccabGreat

/-! What holds of a mesh, as plain data. -/
theorem cnt_pr {c : Hrd} {s s' : St} (h : Pr c s s') : s'.cnt - s'.nws.length = s.cnt - s.nws.length ∧ s'.rep = s.rep := by
  cases h with
  | oth h => rw [h.cnt, h.nws, h.rep]; exact ⟨rfl, rfl⟩
  | tab _ => exact ⟨rfl, rfl⟩
  | frm _ _ _ _ _ => exact ⟨rfl, rfl⟩
  | grw => exact ⟨rfl, rfl⟩
  | mx _ _ _ _ => exact ⟨rfl, rfl⟩
  | wr =>
    refine ⟨?_, rfl⟩
    show s.cnt + ((newsP s.seq s.own s.f s.A).2.length : Int) - ((s.nws ++ (newsP s.seq s.own s.f s.A).2).length : Int) = _
    rw [List.length_append]
    omega
theorem cnt_prs {c : Hrd} {n : Nat} {s s' : St} (h : Prs c n s s') : s'.cnt - s'.nws.length = s.cnt - s.nws.length ∧ s'.rep = s.rep := by
  induction h with
  | nil => exact ⟨rfl, rfl⟩
  | snoc _ k ih =>
    have h2 := cnt_pr k
    exact ⟨h2.1.trans ih.1, h2.2.trans ih.2⟩
/-- How many records a call has written. -/
structure CntP (c0 : Int) (s : St) : Prop where
  no : s.rep = false → s.cnt = c0 + s.nws.length
  yes : s.rep = true → s.cnt = s.nws.length ∧ 0 < s.nws.length
theorem cnt_finish {c0 : Int} {s : St} (h1 : s.cnt - s.nws.length = c0) (h2 : s.rep = false ∨ (c0 = 0 ∧ 0 < s.write.nws.length)) : CntP c0 s.finish := by
  have hw := cnt_pr (c := none) (.wr : Pr none s s.write)
  unfold St.finish
  split
  · refine ⟨fun h => ?_, fun _ => ⟨rfl, ?_⟩⟩
    · cases h
    · have := cmp_len s.write
      dsimp only
      omega
  · refine ⟨fun _ => by omega, fun h => ?_⟩
    have hr : s.rep = true := by rw [← hw.2]; exact h
    rcases h2 with h2 | ⟨h2, h3⟩
    · rw [h2] at hr; cases hr
    · exact ⟨by omega, h3⟩
theorem cnt_begin (s : St) (now : Int) : (s.begin now).cnt - (s.begin now).nws.length = s.cnt ∧ (s.begin now).rep = false := by
  have hw := cnt_pr (c := none) (.wr : Pr none { s with now := now, A := expL s.A now, nws := [], frs := [], cms := [], drs := [], rep := false } ({ s with now := now, A := expL s.A now, nws := [], frs := [], cms := [], drs := [], rep := false } : St).write)
  refine ⟨?_, hw.2⟩
  have := hw.1
  simp only [List.length_nil] at this
  show ({ s with now := now, A := expL s.A now, nws := [], frs := [], cms := [], drs := [], rep := false } : St).write.cnt - _ = _
  have h2 : (s.begin now) = ({ s with now := now, A := expL s.A now, nws := [], frs := [], cms := [], drs := [], rep := false } : St).write := rfl
  rw [h2]
  omega
theorem cnt_call {c : Hrd} {n : Nat} {s s' : St} {now : Int} (h : Prs c n (s.locked.begin now) s') : CntP s.cnt s'.finish.freed := by
  have h1 := cnt_begin s.locked now
  have h2 := cnt_prs h
  have h3 := cnt_finish (c0 := s.cnt) (s := s') (by rw [h2.1]; exact h1.1) (.inl (h2.2.trans h1.2))
  exact ⟨h3.no, h3.yes⟩
theorem brk_prs (s : St) (now nxt : Int) : ∃ s', Prs none 2 (s.locked.begin now) s' ∧ s.brk now nxt = s'.finish.freed := by
  refine ⟨_, Prs.trans (n := 1) (k := 1) (.one (.tab (.brk nxt))) (prs_lose none _ 0 (brkL nxt (s.locked.begin now).A) ?_), rfl⟩
  intro x hx
  obtain ⟨y, hy, e⟩ := List.mem_filterMap.1 hx
  unfold brkP at e
  split at e
  · rename_i hc
    cases e
    simp only [Bool.and_eq_true] at hc
    refine .inr ⟨loseF nxt 0 y, List.mem_map.2 ⟨y, hy, rfl⟩, loseF_dest _ _ y, ?_, .inl (Int.le_max_right _ _)⟩
    unfold loseF
    rw [if_pos (by simp [hc.1.1, hc.1.2])]
    exact Int.le_refl _
  · cases e
theorem loseF_ok {y : Rt} (h : y.Ok) {fr q : Int} (hq : U32 q) : (loseF fr q y).Ok := by
  unfold loseF
  split
  · exact endR_ok h hq
  · exact h
theorem brk_A (s : St) (now nxt : Int) : (s.brk now nxt).A = (expL s.A now).map (loseF nxt 0) := (finish_same _).A
theorem brk_frs (s : St) (now nxt : Int) : ∀ f ∈ (s.brk now nxt).frs, f.1 = 0 := by
  intro f hf
  have e : (s.brk now nxt).frs = lsF 0 (brkL nxt (s.locked.begin now).A) := (finish_same _).frs
  rw [e] at hf
  unfold lsF at hf
  split at hf
  · cases hf
  · rw [List.mem_singleton] at hf
    rw [hf]
theorem brk_inv {s : St} {k : Int} (h : s.Inv k) (hA : ∀ y ∈ s.A, y.Ok) (hl : s.A.length ≤ 8) (now nxt : Int) (hn : s.now ≤ now ∧ now ≤ 4611686018427387904) : (s.brk now nxt).Inv (k + 1) ∧ (∀ y ∈ (s.brk now nxt).A, y.Ok) ∧ (s.brk now nxt).A.length ≤ 8 := by
  have hm := (mid_lock h).2 now hn hA hl
  have hA' : ∀ y ∈ (expL s.A now).map (loseF nxt 0), y.Ok := fun y hy => by
    obtain ⟨z, hz, rfl⟩ := List.mem_map.1 hy
    exact loseF_ok (expL_ok hA now z hz) (by simp [U32])
  have hl' : ((expL s.A now).map (loseF nxt 0)).length ≤ 8 := by rw [List.length_map]; unfold expL; rw [List.length_map]; exact hl
  have e1 := eff_A (s.locked.begin now) (A := (s.locked.begin now).A.map (loseF nxt 0)) (fun y hy => ⟨_, List.mem_map.2 ⟨y, hy, rfl⟩, loseF_dest _ _ y⟩)
  have e2 := e1.trans (eff_lose _ 0 (brkL nxt (s.locked.begin now).A))
  have hm2 := mid_eff hm e2
  refine ⟨inv_freed hm2 (by omega) hA' hl', ?_, ?_⟩
  · rw [brk_A]; exact hA'
  · rw [brk_A]; exact hl'
theorem brk_rest (s : St) (now nxt : Int) : (s.brk now nxt).me = s.me ∧ (s.brk now nxt).now = now ∧ (s.brk now nxt).Q = s.Q := ⟨(finish_same _).me, (finish_same _).now, (finish_same _).Q⟩
theorem brk_cnt (s : St) (now nxt : Int) : CntP s.cnt (s.brk now nxt) := by
  obtain ⟨s', h1, h2⟩ := brk_prs s now nxt
  rw [h2]
  exact cnt_call h1

/-- What holds of a node in its station; c: the bytes of its journal. -/
structure NOk (κ : Int) (q : Nat) (now : Int) (s : Stn) (z : St) : Prop where
  inv : z.Inv κ
  pos : z.Pos
  me : z.me = s.addr
  nw : z.now ≤ now
  ql : z.Q.length ≤ q
  ok : ∀ y ∈ z.A, y.Ok
  len : z.A.length ≤ 8
/-- What holds of a station. -/
structure SOk (κ : Int) (q : Nat) (now : Int) (s : Stn) : Prop where
  addr : U32 s.addr
  a0 : s.addr ≠ 0
  jb : ∀ x ∈ s.jrn, 0 ≤ x ∧ x ≤ 255
  jl : s.jrn.length ≤ 2000
  wh : 0 ≤ s.whole
  nd : ∀ z, s.nd = some z → NOk κ q now s z
  jn : ∀ z, s.nd = some z → (s.jrn.length : Int) = 13 * z.cnt ∧ 0 < z.cnt
/-- What holds of a station whose node has done something that is not yet written. -/
structure SPre (κ : Int) (q : Nat) (now : Int) (s : Stn) (z : St) : Prop where
  addr : U32 s.addr
  a0 : s.addr ≠ 0
  jb : ∀ x ∈ s.jrn, 0 ≤ x ∧ x ≤ 255
  jl : s.jrn.length ≤ 2000
  wh : 0 ≤ s.whole
  hz : s.nd = some z
  nd : NOk κ q now s z
  no : z.rep = false → 13 * z.cnt = s.jrn.length + 13 * z.nws.length
  yes : z.rep = true → z.cnt = z.nws.length
  pos : 0 < z.cnt
structure MOk (κ : Int) (q : Nat) (m : Msh) : Prop where
  n : m.S.length ≤ 6
  air : m.air.length ≤ 48
  now : 0 ≤ m.now ∧ m.now ≤ 4611686018427387904
  st : ∀ s ∈ m.S, SOk κ q m.now s
theorem inv_le {k k' : Int} {s : St} (h : s.Inv k) (hk : k ≤ k') : s.Inv k' :=
  ⟨h.me, h.seq, h.now, h.mem, h.dom, h.cnt, by have := h.tn; omega, by have := h.tl; omega, h.lk, h.pcl, h.pcs, h.pcn, h.qid, h.bd, h.nwl, h.frl, h.cml, h.drl⟩
theorem NOk.up {κ κ' : Int} {q q' : Nat} {now now' : Int} {s s' : Stn} {z : St} (h : NOk κ q now s z) (h1 : κ ≤ κ') (h2 : q ≤ q') (h3 : now ≤ now') (h4 : s'.addr = s.addr) : NOk κ' q' now' s' z :=
  ⟨inv_le h.inv h1, h.pos, h.me.trans h4.symm, by have := h.nw; omega, by have := h.ql; omega, h.ok, h.len⟩
theorem SOk.up {κ κ' : Int} {q q' : Nat} {now now' : Int} {s : Stn} (h : SOk κ q now s) (h1 : κ ≤ κ') (h2 : q ≤ q') (h3 : now ≤ now') : SOk κ' q' now' s :=
  ⟨h.addr, h.a0, h.jb, h.jl, h.wh, fun z hz => (h.nd z hz).up h1 h2 h3 rfl, h.jn⟩
theorem MOk.up {κ κ' : Int} {q q' : Nat} {m : Msh} (h : MOk κ q m) (h1 : κ ≤ κ') (h2 : q ≤ q') : MOk κ' q' m := ⟨h.n, h.air, h.now, fun s hs => (h.st s hs).up h1 h2 (Int.le_refl _)⟩
theorem SPre.nwl {κ : Int} {q : Nat} {now : Int} {s : Stn} {z : St} (h : SPre κ q now s z) : z.nws.length ≤ 24 := by
  have hc := h.nd.inv.cnt
  cases hr : z.rep
  · have := h.no hr
    omega
  · have := h.yes hr
    omega
/-- What is written is in its place. -/
theorem SPre.write {κ : Int} {q : Nat} {now : Int} {s : Stn} {z : St} (h : SPre κ q now s z) : SOk κ q now (s.write z.ot).1 := by
  have hn := h.nwl
  have hc := h.nd.inv.cnt
  have hbd := flatR_b h.nd.inv.bd
  have hfl := flatR_length z.nws
  have hjl := h.jl
  by_cases h1 : z.nws ≠ [] ∨ z.rep = true
  · cases ht : s.tears
    · rw [Stn.write_whole (o := z.ot) h1 ht]
      show SOk κ q now { s with jrn := (if z.rep then [] else s.jrn) ++ flatR z.nws }
      have hlen : (((if z.rep then [] else s.jrn) ++ flatR z.nws).length : Int) = 13 * z.cnt := by
        cases hr : z.rep
        · have := h.no hr
          simp only [Bool.false_eq_true, if_false, List.length_append, hfl]
          omega
        · have := h.yes hr
          simp only [if_true, List.nil_append, hfl]
          omega
      refine ⟨h.addr, h.a0, fun x hx => ?_, ?_, h.wh, fun u hu => ?_, fun u hu => ?_⟩
      · rcases List.mem_append.1 hx with hx | hx
        · split at hx
          · cases hx
          · exact h.jb x hx
        · exact hbd x hx
      · dsimp only
        omega
      · have hu' : s.nd = some u := hu
        rw [h.hz] at hu'
        cases hu'
        exact h.nd.up (Int.le_refl _) (Nat.le_refl _) (Int.le_refl _) rfl
      · have hu' : s.nd = some u := hu
        rw [h.hz] at hu'
        cases hu'
        exact ⟨hlen, h.pos⟩
    · rw [Stn.write_torn (o := z.ot) h1 ht]
      show SOk κ q now ({ s with jrn := if z.rep then s.jrn else s.jrn ++ (flatR z.nws).take s.whole.toNat } : Stn).stop
      refine ⟨h.addr, h.a0, fun x hx => ?_, ?_, Int.le_refl _, fun u hu => (by cases hu), fun u hu => (by cases hu)⟩
      · have hx' : x ∈ (if z.rep then s.jrn else s.jrn ++ (flatR z.nws).take s.whole.toNat) := hx
        split at hx'
        · exact h.jb x hx'
        · rcases List.mem_append.1 hx' with hx' | hx'
          · exact h.jb x hx'
          · exact hbd x (List.mem_of_mem_take hx')
      · show (if z.rep then s.jrn else s.jrn ++ (flatR z.nws).take s.whole.toNat).length ≤ 2000
        cases hr : z.rep
        · have h5 := h.no hr
          simp only [Bool.false_eq_true, if_false, List.length_append, List.length_take, hfl]
          omega
        · simp only [if_true]
          exact hjl
  · simp only [not_or, Classical.not_not] at h1
    obtain ⟨h1, h2⟩ := h1
    have h2' : z.rep = false := by simpa using h2
    rw [Stn.write_no (o := z.ot) h1 h2']
    have h5 := h.no h2'
    rw [h1] at h5
    simp only [List.length_nil] at h5
    exact ⟨h.addr, h.a0, h.jb, h.jl, h.wh, fun u hu => by rw [h.hz] at hu; cases hu; exact h.nd, fun u hu => by
      rw [h.hz] at hu
      cases hu
      refine ⟨?_, h.pos⟩
      show (s.jrn.length : Int) = 13 * z.cnt
      omega⟩
/-- A call of a node. -/
theorem SOk.call {κ : Int} {q : Nat} {now : Int} {s : Stn} {z z' : St} (h : SOk κ q now s) (hz : s.nd = some z) (hc : CntP z.cnt z') (hn : NOk κ q now s z') : SPre κ q now { s with nd := some z' } z' :=
  ⟨h.addr, h.a0, h.jb, h.jl, h.wh, rfl, hn.up (Int.le_refl _) (Nat.le_refl _) (Int.le_refl _) rfl, fun hr => by
    have h1 := hc.no hr
    have h2 := (h.jn z hz).1
    show 13 * z'.cnt = (s.jrn.length : Int) + 13 * z'.nws.length
    omega, fun hr => (hc.yes hr).1, by
    have h3 := (h.jn z hz).2
    cases hr : z'.rep
    · have := hc.no hr
      omega
    · have := hc.yes hr
      omega⟩
/-- What holds of a mesh whose node i has done something that is not yet written. -/
structure DOk (κ : Int) (q : Nat) (m : Msh) (i : Nat) (z : St) : Prop where
  n : m.S.length ≤ 6
  air : m.air.length ≤ 48
  now : 0 ≤ m.now ∧ m.now ≤ 4611686018427387904
  st : ∀ j s, m.S[j]? = some s → j ≠ i → SOk κ q m.now s
  pre : ∃ s, m.S[i]? = some s ∧ SPre κ q m.now s z
theorem put_S (m : Msh) (i : Nat) (s : Stn) : (m.put i s).S = m.S.set i s ∧ (m.put i s).now = m.now ∧ (m.put i s).air = m.air := ⟨rfl, rfl, rfl⟩
theorem DOk.write {κ : Int} {q : Nat} {m : Msh} {i : Nat} {z : St} (h : DOk κ q m i z) : MOk κ q (m.put i ((m.at' i).write z.ot).1) := by
  obtain ⟨s, h1, h2⟩ := h.pre
  rw [at_of h1]
  refine ⟨by rw [(put_S _ _ _).1, List.length_set]; exact h.n, h.air, h.now, fun u hu => ?_⟩
  rw [(put_S _ _ _).1] at hu
  obtain ⟨j, hj⟩ := List.getElem?_of_mem hu
  rcases set_cases hj with ⟨_, rfl⟩ | ⟨hne, hj⟩
  · exact h2.write
  · exact h.st j u hj hne
theorem MOk.at {κ : Int} {q : Nat} {m : Msh} (h : MOk κ q m) {i : Nat} {s : Stn} (hs : m.S[i]? = some s) : SOk κ q m.now s := h.st s (List.mem_of_getElem? hs)
theorem MOk.sendF {κ : Int} {q : Nat} {m : Msh} (h : MOk κ q m) (i : Nat) (f : Int × ByteArray) : MOk κ q (m.sendF i f) := by
  have hS := sentTo_S m i f m.S.length
  have ha := sentTo_air m i f m.S.length h.air
  rw [sentTo_all] at hS ha
  exact ⟨by rw [hS.1]; exact h.n, ha, by rw [hS.2]; exact h.now, fun s hs => by rw [hS.2]; rw [hS.1] at hs; exact h.st s hs⟩
/-- A node has been called. -/
theorem MOk.called {κ κ' : Int} {q q' : Nat} {m : Msh} (h : MOk κ q m) (hκ : κ ≤ κ') (hq : q ≤ q') {i : Nat} {s : Stn} {z z' : St} (hs : m.S[i]? = some s) (hz : s.nd = some z) (hc : CntP z.cnt z') (hn : NOk κ' q' m.now s z') : DOk κ' q' (m.put i { s with nd := some z' }) i z' := by
  refine ⟨by rw [(put_S _ _ _).1, List.length_set]; exact h.n, h.air, h.now, fun j u hj hne => ?_, ?_⟩
  · rw [(put_S _ _ _).1] at hj
    rcases set_cases hj with ⟨e, _⟩ | ⟨_, hj⟩
    · exact absurd e hne
    · exact (h.at hj).up hκ hq (Int.le_refl _)
  · refine ⟨_, ?_, ((h.at hs).up hκ hq (Int.le_refl _)).call hz hc hn⟩
    rw [(put_S _ _ _).1, List.getElem?_set_self (List.getElem?_eq_some_iff.1 hs).1]
theorem MOk.broken {κ : Int} {q : Nat} {m : Msh} (h : MOk κ q m) {i : Nat} {s : Stn} {z : St} (hs : m.S[i]? = some s) (hz : s.nd = some z) (t : Int) : DOk (κ + 1) q (m.put i { s with nd := some (z.brk m.now t) }) i (z.brk m.now t) := by
  have hn := (h.at hs).nd z hz
  obtain ⟨h1, h2, h3⟩ := brk_inv hn.inv hn.ok hn.len m.now t ⟨hn.nw, h.now.2⟩
  obtain ⟨e1, e2, e3⟩ := brk_rest z m.now t
  refine h.called (by omega) (Nat.le_refl _) hs hz (brk_cnt z m.now t) ⟨h1, fun u hu => ?_, e1.trans hn.me, by rw [e2]; exact Int.le_refl _, by rw [e3]; exact hn.ql, h2, h3⟩
  rw [e3] at hu
  exact hn.pos u hu
theorem DOk.toM {κ : Int} {q : Nat} {m : Msh} {i : Nat} {z : St} (h : DOk κ q m i z) (hi : z.ot.idle = true) : MOk κ q m := by
  obtain ⟨s, h1, h2⟩ := h.pre
  have hw := h.write
  rw [idle_eq] at hi
  simp only [Bool.and_eq_true, decide_eq_true_eq, Bool.not_eq_true'] at hi
  rw [at_of h1, Stn.write_no hi.1.1 hi.1.2] at hw
  refine ⟨h.n, h.air, h.now, fun u hu => ?_⟩
  obtain ⟨j, hj⟩ := List.getElem?_of_mem hu
  by_cases e : j = i
  · subst e
    rw [h1] at hj
    cases hj
    refine hw.at (i := j) ?_
    rw [(put_S _ _ _).1, List.getElem?_set_self (List.getElem?_eq_some_iff.1 h1).1]
  · exact h.st j u hj e
theorem foldF_ok {φ : Msh → Int × ByteArray → Msh × List Ev} {q d : Nat} (hφ : ∀ κ m f, MOk κ q m → MOk (κ + d) q (φ m f).1) : ∀ (L : List (Int × ByteArray)) (κ : Int) (z : Msh × List Ev), MOk κ q z.1 → MOk (κ + d * L.length) q (L.foldl (didF φ) z).1
  | [], κ, z, h => by simpa using h
  | f :: L, κ, z, h => by
    rw [List.foldl_cons]
    have h1 := foldF_ok hφ L (κ + d) (didF φ z f) (hφ κ z.1 f h)
    refine h1.up ?_ (Nat.le_refl _)
    rw [List.length_cons, Int.natCast_add, Int.mul_add]
    omega
theorem didK_ok {φ : Msh → Int × ByteArray → Msh × List Ev} {q d : Nat} (hφ : ∀ κ m f, MOk κ q m → MOk (κ + d) q (φ m f).1) {κ : Int} {m : Msh} {i : Nat} {z : St} (h : DOk κ q m i z) (k : Nat) (hk : k ≤ z.frs.length) : MOk (κ + d * k) q (didK φ m i z.ot k).1 := by
  have h1 := foldF_ok hφ (z.frs.take k) κ (m.put i ((m.at' i).write z.ot).1, [⟨i, 0, z.ot⟩]) h.write
  rw [List.length_take, Nat.min_eq_left hk] at h1
  exact h1
theorem didW_ok {φ : Msh → Int × ByteArray → Msh × List Ev} {q d : Nat} (hφ : ∀ κ m f, MOk κ q m → MOk (κ + d) q (φ m f).1) {κ : Int} {m : Msh} {i : Nat} {z : St} (h : DOk κ q m i z) : MOk (κ + d * z.frs.length) q (m.didW φ i z.ot).1 := by
  cases hi : z.ot.idle
  · cases hw : ((m.at' i).write z.ot).2
    · unfold Msh.didW
      rw [if_neg (by simp [hi]), if_neg (by simp [hw])]
      exact h.write.up (by have := Int.mul_nonneg (Int.natCast_nonneg d) (Int.natCast_nonneg z.frs.length); omega) (Nat.le_refl _)
    · rw [didW_all φ m i z.ot hi hw]
      exact didK_ok hφ h z.frs.length (Nat.le_refl _)
  · unfold Msh.didW
    rw [if_pos hi]
    exact (h.toM hi).up (by have := Int.mul_nonneg (Int.natCast_nonneg d) (Int.natCast_nonneg z.frs.length); omega) (Nat.le_refl _)
theorem out0_ok {q : Nat} (i : Nat) : ∀ (κ : Int) (m : Msh) (f : Int × ByteArray), MOk κ q m → MOk (κ + (0 : Nat)) q (m.out0 i f).1 := fun κ m f h => (h.sendF i f).up (by omega) (Nat.le_refl _)
theorem out0_len (i : Nat) (m : Msh) (f : Int × ByteArray) : (m.out0 i f).2.length ≤ 1 := Nat.zero_le _
theorem didF_evs {φ : Msh → Int × ByteArray → Msh × List Ev} (hφ : ∀ m f, (φ m f).2 = []) : ∀ (L : List (Int × ByteArray)) (z : Msh × List Ev), (L.foldl (didF φ) z).2 = z.2
  | [], _ => rfl
  | f :: L, z => by
    rw [List.foldl_cons, didF_evs hφ L]
    unfold didF
    rw [hφ, List.append_nil]
theorem didB_len (m : Msh) (i : Nat) (o : Ot) : (m.didB i o).2.length ≤ 1 := by
  unfold Msh.didB Msh.didW
  split
  · exact Nat.zero_le _
  · split
    · rw [show (fun (z : Msh × List Ev) (f : Int × ByteArray) => ((Msh.out0 i z.1 f).1, z.2 ++ (Msh.out0 i z.1 f).2)) = didF (Msh.out0 i) from rfl, didF_evs (fun _ _ => rfl)]
      exact Nat.le_refl _
    · exact Nat.le_refl _
theorem out1_len (i : Nat) (m : Msh) (f : Int × ByteArray) : (m.out1 i f).2.length ≤ 1 := by
  unfold Msh.out1
  split
  · exact Nat.zero_le _
  · split
    · exact Nat.zero_le _
    · exact didB_len _ _ _
theorem out1_ok {q : Nat} (i : Nat) : ∀ (κ : Int) (m : Msh) (f : Int × ByteArray), MOk κ q m → MOk (κ + (1 : Nat)) q (m.out1 i f).1 := by
  intro κ m f h
  have hf := h.sendF i f
  unfold Msh.out1
  split
  · exact hf.up (by omega) (Nat.le_refl _)
  · split
    · exact hf.up (by omega) (Nat.le_refl _)
    · rename_i s hs
      have hS := (sentTo_S m i f m.S.length)
      rw [sentTo_all] at hS
      obtain ⟨u, hu⟩ : ∃ u, (m.sendF i f).S[i]? = some u := by
        cases hu : (m.sendF i f).S[i]? with
        | some u => exact ⟨u, rfl⟩
        | none =>
          unfold Msh.at' at hs
          rw [List.getD_eq_getElem?_getD, hu] at hs
          cases hs
      rw [at_of hu] at hs ⊢
      have hb := hf.broken hu hs f.1
      rw [hS.2] at hb
      have := didW_ok (out0_ok i) hb
      exact this.up (by omega) (Nat.le_refl _)
end Go.Proofs.YtakaadcpaeiccabGreat
