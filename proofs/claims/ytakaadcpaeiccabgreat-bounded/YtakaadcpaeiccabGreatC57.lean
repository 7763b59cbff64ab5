import Derived.Test.YtakaadcpaeiccabGreatC56
namespace Go.Proofs.YtakaadcpaeiccabGreat
open Go.RowKit Go.Maps

/-! A step of a script. -/
theorem has_nat {m : Msh} {a : Int} (h : m.has a = true) : ∃ i : Nat, a = i ∧ i < m.S.length := by
  unfold Msh.has at h
  rw [Bool.and_eq_true, decide_eq_true_iff, decide_eq_true_iff] at h
  exact ⟨a.toNat, (Int.toNat_of_nonneg h.1).symm, by omega⟩
theorem runs_nat {m : Msh} {a : Int} (h : m.runs a = true) : ∃ i : Nat, a = i ∧ i < m.S.length := has_nat (Bool.and_eq_true_iff.1 h).1
theorem stop_ok {κ : Int} {q : Nat} {now : Int} {s : Stn} (h : SOk κ q now s) : SOk κ q now s.stop :=
  ⟨h.addr, h.a0, h.jb, h.jl, Int.le_refl _, fun _ hz => (by cases hz), fun _ hz => (by cases hz)⟩
theorem tear_ok {κ : Int} {q : Nat} {now : Int} {s : Stn} (h : SOk κ q now s) (n : Int) : SOk κ q now { s with tears := true, whole := max 0 n } :=
  ⟨h.addr, h.a0, h.jb, h.jl, Int.le_max_left _ _, fun z hz => (h.nd z hz).up (Int.le_refl _) (Nat.le_refl _) (Int.le_refl _) rfl, h.jn⟩
theorem MOk.put' {κ : Int} {q : Nat} {m : Msh} (h : MOk κ q m) (i : Nat) {s : Stn} (hs : SOk κ q m.now s) : MOk κ q (m.put i s) := by
  refine ⟨by rw [(put_S _ _ _).1, List.length_set]; exact h.n, h.air, h.now, fun u hu => ?_⟩
  rw [(put_S _ _ _).1] at hu
  rcases List.mem_or_eq_of_mem_set hu with hu | rfl
  · exact h.st u hu
  · exact hs
theorem link_ok {κ : Int} {q : Nat} {m : Msh} (h : MOk κ q m) (a b : Nat) (ha : a < m.S.length) (hb : b < m.S.length) (on : Bool) : MOk κ q (m.link a b on) := by
  have hs : ∀ (m : Msh), MOk κ q m → ∀ c, c < m.S.length → ∀ L : List Bool, MOk κ q (m.put c { m.at' c with hrs := L }) := fun m hm c hc L => by
    refine hm.put' c ?_
    have h2 := hm.at (List.getElem?_eq_getElem hc)
    rw [← at_of (List.getElem?_eq_getElem hc)] at h2
    exact ⟨h2.addr, h2.a0, h2.jb, h2.jl, h2.wh, fun z hz => (h2.nd z hz).up (Int.le_refl _) (Nat.le_refl _) (Int.le_refl _) rfl, h2.jn⟩
  unfold Msh.link
  split
  · exact h
  · exact hs _ (hs m h a ha _) b (by rw [(put_S _ _ _).1, List.length_set]; exact hb) _

/-- What the region of a node's beginning reads. -/
@[reducible] def SBo (G g i B D : Nat) (now : Int) (sv : Value) (W : World) : Prop :=
  (W.cell? ⟨G, 0, none⟩ = some (.int .u64 now) ∧ W.cell? ⟨G, 1, none⟩ = some sv ∧ W.cell? ⟨g, i, none⟩ = some (.pointer (some ⟨B, 0, none⟩)) ∧ W.cell? ⟨D, 1, none⟩ = some (.int .i64 i)) ∧ G < W.heap.size ∧ g < W.heap.size ∧ D < W.heap.size
theorem SBo.keep {G g i B D : Nat} {now : Int} {sv : Value} {W W' : World} (h : SBo G g i B D now sv W) (hz : W.heap.size ≤ W'.heap.size) (hb : ∀ k, k = G ∨ k = g ∨ k = D → W'.heap[k]? = W.heap[k]?) : SBo G g i B D now sv W' := by
  obtain ⟨⟨c0, c1, c2, c3⟩, h1, h2, h3⟩ := h
  exact ⟨⟨(World.cell?_of_block (a := ⟨G, 0, none⟩) (hb _ (.inl rfl))).trans c0, (World.cell?_of_block (a := ⟨G, 1, none⟩) (hb _ (.inl rfl))).trans c1, (World.cell?_of_block (a := ⟨g, i, none⟩) (hb _ (.inr (.inl rfl)))).trans c2, (World.cell?_of_block (a := ⟨D, 1, none⟩) (hb _ (.inr (.inr rfl)))).trans c3⟩, Nat.lt_of_lt_of_le h1 hz, Nat.lt_of_lt_of_le h2 hz, Nat.lt_of_lt_of_le h3 hz⟩

set_option maxRecDepth 100000 in
set_option maxHeartbeats 8000000 in
theorem M_Do {y : MG} {m : Msh} {w : World} (h : MM y m w) {κ : Int} {q : Nat} (hok : MOk κ q m) (hκ : 0 ≤ κ ∧ κ ≤ 90000000000) (hq : q ≤ 4990) (hnow : m.now + 60000 ≤ 4611686018427387904) (hfl : FlOk m) (o : Op) (ht : o.dow = 8 → o.txt.size ≤ 65536) (hbt : ∀ i : Nat, o.a = i → i < m.S.length → (m.at' i).nd = none → BootOk (m.at' i) m.now ∧ DOk κ q (m.put i { m.at' i with nd := some (St.new (m.at' i).addr (m.at' i).jrn m.now) }) i (St.new (m.at' i).addr (m.at' i).jrn m.now)) :
    Calls Tryz.prog 11 #[.pointer (some ⟨y.G, 0, none⟩), opV o] w fun e w' => DidP y m (m.step o).1 (m.step o).2 w.heap.size w e w' ∧ MOk (κ + 1000000) (q + 1) (m.step o).1 := by
  have hb0 : Below w.heap.size w (w.alloc (.cells #[.int .i64 o.dow, .int .i64 o.a, .int .i64 o.b, .int .i64 o.n, .bool o.on, .string o.txt] 28)) := (Below.refl _ _).alloc (Nat.le_refl _) _
  have hC := heap_alloc_new w (.cells #[.int .i64 o.dow, .int .i64 o.a, .int .i64 o.b, .int .i64 o.n, .bool o.on, .string o.txt] 28)
  have h1 := h.later hb0
  have HM := hide fun W (hW : MM y m W) => M_may hW o
  have hstep : ∀ r, m.may o = true → r = (if o.dow = 1 then (m.link o.a.toNat o.b.toNat o.on, []) else if o.dow = 2 then m.send o.a.toNat o.b.toNat o.txt else if o.dow = 3 then m.tick o.n else if o.dow = 4 ∨ o.dow = 5 ∨ o.dow = 6 ∨ o.dow = 7 then m.flight o else if o.dow = 8 then m.hear o.a.toNat o.b.toNat o.txt else if o.dow = 9 then (m.put o.a.toNat (m.at' o.a.toNat).stop, []) else if o.dow = 10 then (m.put o.a.toNat { m.at' o.a.toNat with tears := true, whole := max 0 o.n }, []) else if o.dow = 11 then m.boot o.a.toNat else (m, [])) → m.step o = r := by
    intro r hm hr
    rw [hr]
    unfold Msh.step
    rw [if_neg (by rw [hm]; decide)]
  cases hmay : m.may o with
  | false =>
    have ho : m.step o = (m, [⟨0, 5, Ot.none⟩]) := by
      unfold Msh.step
      rw [if_pos (by rw [hmay]; rfl)]
    rw [ho]
    have hfin : Hid (∀ wc, Below w.heap.size w wc → DidP y m m [⟨0, 5, Ot.none⟩] w.heap.size w (.returned (.slice (some ⟨wc.heap.size, 0, none⟩) 1 1)) (wc.alloc (.cells #[.int .i64 0, .int .i64 5, .string ⟨#[]⟩, .bool false, .slice none 0 0, .slice none 0 0, .slice none 0 0] 54)) ∧ MOk (κ + 1000000) (q + 1) m) := by
      intro wc hb
      have hev := ev_one (b := w.heap.size) (W := wc) (x := (⟨0, 5, Ot.none⟩, ⟨.slice none 0 0, .slice none 0 0, .slice none 0 0⟩)) hb.size ⟨⟨rfl, .inl ⟨rfl, rfl⟩⟩, ⟨rfl, .inl ⟨rfl, rfl⟩⟩, ⟨rfl, .inl ⟨rfl, rfl⟩⟩⟩
      exact ⟨⟨_, _, rfl, rfl, hev, (MP.refl h).post (hb.alloc hb.size _)⟩, hok.up (by omega) (Nat.le_succ _)⟩
    rw [hmay] at HM
    obtain ⟨dow, a, b, n, on, txt⟩ := o
    unfold opV at HM ⊢
    dsimp only at hb0 hC h1 HM ⊢
    clear hstep hok hfl h ho hbt
    go_enter Tryz.func11, Tryz.ntmps11
    go_upto_region 1 with (fail)
    generalize World.alloc _ _ = W1 at hb0 hC h1 ⊢
    have hCl := some_lt hC
    have t0 : W1.cell? ⟨w.heap.size, 0, none⟩ = some (.int .i64 dow) := cell_of_row _ _ 0 _ _ _ hC
    have t1 : W1.cell? ⟨w.heap.size, 1, none⟩ = some (.int .i64 a) := cell_of_row _ _ 1 _ _ _ hC
    have t2 : W1.cell? ⟨w.heap.size, 2, none⟩ = some (.int .i64 b) := cell_of_row _ _ 2 _ _ _ hC
    have t3 : W1.cell? ⟨w.heap.size, 3, none⟩ = some (.int .i64 n) := cell_of_row _ _ 3 _ _ _ hC
    have t4 : W1.cell? ⟨w.heap.size, 4, none⟩ = some (.bool on) := cell_of_row _ _ 4 _ _ _ hC
    have t5 : W1.cell? ⟨w.heap.size, 5, none⟩ = some (.string txt) := cell_of_row _ _ 5 _ _ _ hC
    go_upto_region 2 with (go_at_call 28; refine (HM.out W1 h1).mono ?_; rintro e w2 ⟨rfl, hb2⟩)
    have hfn := hide (hfin.out _ (hb0.trans (hb2.mono (Nat.le_of_lt hCl))))
    clear hfin HM hb0 hb2 hC t0 t1 t2 t3 t4 t5
    go_wp2
    go_ret
    exact hfn.out
  | true =>
    rw [hmay] at HM
    obtain ⟨dow, a, b, n, on, txt⟩ := o
    unfold opV at HM ⊢
    dsimp only at hb0 hC h1 HM ht hstep hbt ⊢
    replace ht := hide ht
    have hstep := fun r => hstep r hmay
    obtain ⟨r, hr⟩ : ∃ r, m.step ⟨dow, a, b, n, on, txt⟩ = r := ⟨_, rfl⟩
    rw [hr] at hstep ⊢
    clear hr
    go_enter Tryz.func11, Tryz.ntmps11
    go_upto_region 1 with (fail)
    generalize World.alloc _ _ = W1 at hb0 hC h1 ⊢
    have hCl := some_lt hC
    have t0 : W1.cell? ⟨w.heap.size, 0, none⟩ = some (.int .i64 dow) := cell_of_row _ _ 0 _ _ _ hC
    have t1 : W1.cell? ⟨w.heap.size, 1, none⟩ = some (.int .i64 a) := cell_of_row _ _ 1 _ _ _ hC
    have t2 : W1.cell? ⟨w.heap.size, 2, none⟩ = some (.int .i64 b) := cell_of_row _ _ 2 _ _ _ hC
    have t3 : W1.cell? ⟨w.heap.size, 3, none⟩ = some (.int .i64 n) := cell_of_row _ _ 3 _ _ _ hC
    have t4 : W1.cell? ⟨w.heap.size, 4, none⟩ = some (.bool on) := cell_of_row _ _ 4 _ _ _ hC
    have t5 : W1.cell? ⟨w.heap.size, 5, none⟩ = some (.string txt) := cell_of_row _ _ 5 _ _ _ hC
    replace hmay := hide hmay
    replace hstep := hide hstep
    go_upto_region 3 with (go_at_call 28; refine (HM.out W1 h1).mono ?_; rintro e w2 ⟨rfl, hb2⟩)
    have hC2 := (hb2.block _ hCl).trans hC
    clear t0 t1 t2 t3 t4 t5
    have t0 : w2.cell? ⟨w.heap.size, 0, none⟩ = some (.int .i64 dow) := cell_of_row _ _ 0 _ _ _ hC2
    have t1 : w2.cell? ⟨w.heap.size, 1, none⟩ = some (.int .i64 a) := cell_of_row _ _ 1 _ _ _ hC2
    have t2 : w2.cell? ⟨w.heap.size, 2, none⟩ = some (.int .i64 b) := cell_of_row _ _ 2 _ _ _ hC2
    have t3 : w2.cell? ⟨w.heap.size, 3, none⟩ = some (.int .i64 n) := cell_of_row _ _ 3 _ _ _ hC2
    have t4 : w2.cell? ⟨w.heap.size, 4, none⟩ = some (.bool on) := cell_of_row _ _ 4 _ _ _ hC2
    have t5 : w2.cell? ⟨w.heap.size, 5, none⟩ = some (.string txt) := cell_of_row _ _ 5 _ _ _ hC2
    have hm2 := h1.later hb2
    have hb3 := hb0.trans (hb2.mono (Nat.le_of_lt hCl))
    have HF := hide fun (e : Ending) w4 (hp : DidP y m r.1 r.2 w2.heap.size w2 e w4) => (show DidP y m r.1 r.2 w.heap.size w e w4 by
      obtain ⟨v, L, rfl, hL, hev, hmp⟩ := hp
      exact ⟨v, L, rfl, hL, hev.lower hb3.size, hmp.pre hb3⟩)
    have HE := hide fun w4 (he : [] = r.2) (hp : MP y m r.1 w2 w4) => (show DidP y m r.1 r.2 w.heap.size w (.returned (.slice none 0 0)) w4 from ⟨_, [], rfl, he, EvsM.nil _ _, hp.pre hb3⟩)
    have HQ := hide fun md (hk : MOk κ q md) => (show MOk (κ + 1000000) (q + 1) md from hk.up (by omega) (Nat.le_succ _))
    clear HM hb0 hb2 hC h1 h hCl hb3
    by_cases d1 : dow = 1
    · subst d1
      have hm := hmay.out
      unfold Msh.may at hm
      dsimp only at hm
      rw [if_pos rfl, Bool.and_eq_true] at hm
      obtain ⟨i, rfl, hi⟩ := has_nat hm.1
      obtain ⟨j, rfl, hj⟩ := has_nat hm.2
      have er := (hstep.out (m.link i j on, []) (by rw [if_pos rfl]; simp only [Int.toNat_natCast])).symm
      have er1 : m.link i j on = r.1 := congrArg Prod.fst er
      have er2 := hide (show [] = r.2 from congrArg Prod.snd er)
      have HX := M_link hm2 i j hi hj hok.n on
      have hk := HQ.out _ (link_ok hok i j hi hj on)
      rw [er1] at HX hk
      replace HX := hide HX
      replace hk := hide hk
      clear hm hmay hstep hok hfl hbt hm2 HF HQ er er1
      go_wp2_with (go_at_call 29; refine HX.out.mono ?_; rintro e w4 ⟨rfl, hmp⟩; have hfin := hide (HE.out _ er2.out hmp); clear hmp)
      go_ret
      exact ⟨hfin.out, hk.out⟩
    by_cases d2 : dow = 2
    · subst d2
      have hm := hmay.out
      unfold Msh.may at hm
      dsimp only at hm
      rw [if_neg (by decide), if_pos (.inl rfl), Bool.and_eq_true] at hm
      obtain ⟨i, rfl, hi⟩ := runs_nat hm.1
      obtain ⟨j, rfl, hj⟩ := has_nat hm.2
      have er := (hstep.out (m.send i j txt) (by rw [if_neg (by decide), if_pos rfl]; simp only [Int.toNat_natCast])).symm
      have HX := M_send hm2 hok hκ (by omega) i j hi hj txt hm.1
      rw [er] at HX
      replace HX := hide HX
      clear hm hmay hstep hok hfl hbt hm2 HE HQ er
      go_wp2_with (go_at_call 30; refine HX.out.mono ?_; rintro e w4 ⟨⟨v, L, rfl, hL, hev, hmp⟩, hmk⟩; have hfin := hide (HF.out _ _ ⟨v, L, rfl, hL, hev, hmp⟩); replace hmk := hide (hmk.up (show κ + 200000 ≤ κ + 1000000 by omega) (Nat.le_refl _)); clear hL hev hmp)
      go_ret
      exact ⟨hfin.out, hmk.out⟩
    by_cases d3 : dow = 3
    · subst d3
      have er := (hstep.out (m.tick n) (by rw [if_neg (by decide), if_neg (by decide), if_pos rfl])).symm
      have HX := M_tick hm2 hok hκ hq n hnow
      rw [er] at HX
      replace HX := hide HX
      clear hmay hstep hok hfl hbt hm2 HE HQ er
      go_wp2_with (go_at_call 31; refine HX.out.mono ?_; rintro e w4 ⟨⟨v, L, rfl, hL, hev, hmp⟩, hmk⟩; have hfin := hide (HF.out _ _ ⟨v, L, rfl, hL, hev, hmp⟩); replace hmk := hide (hmk.up (Int.le_refl _) (Nat.le_succ q)); clear hL hev hmp)
      go_ret
      exact ⟨hfin.out, hmk.out⟩
    by_cases d4 : dow = 4 ∨ dow = 5 ∨ dow = 6 ∨ dow = 7
    · have er := (hstep.out (m.flight ⟨dow, a, b, n, on, txt⟩) (by rw [if_neg d1, if_neg d2, if_neg d3, if_pos d4])).symm
      have HX := M_flight hm2 hok hκ hfl ⟨dow, a, b, n, on, txt⟩ d4
      rw [er] at HX
      unfold opV at HX
      dsimp only at HX
      replace HX := hide HX
      clear hmay hstep hok hfl hbt hm2 HE HQ er d1 d2 d3
      rcases d4 with rfl | rfl | rfl | rfl
      all_goals
        go_wp2_with (go_at_call 32; refine HX.out.mono ?_; rintro e w4 ⟨⟨v, L, rfl, hL, hev, hmp⟩, hmk⟩; have hfin := hide (HF.out _ _ ⟨v, L, rfl, hL, hev, hmp⟩); replace hmk := hide (hmk.up (show κ + 200000 ≤ κ + 1000000 by omega) (Nat.le_succ q)); clear hL hev hmp)
        go_ret
        exact ⟨hfin.out, hmk.out⟩
    by_cases d8 : dow = 8
    · subst d8
      have hm := hmay.out
      unfold Msh.may at hm
      dsimp only at hm
      rw [if_neg (by decide), if_pos (.inr rfl), Bool.and_eq_true] at hm
      obtain ⟨i, rfl, hi⟩ := runs_nat hm.1
      obtain ⟨j, rfl, hj⟩ := has_nat hm.2
      have er := (hstep.out (m.hear i j txt) (by rw [if_neg (by decide), if_neg (by decide), if_neg (by decide), if_neg (by decide), if_pos rfl]; simp only [Int.toNat_natCast])).symm
      have HX := M_hear hm2 hok hκ i j hi hj txt (ht.out rfl)
      rw [er] at HX
      replace HX := hide HX
      clear hm hmay hstep hok hfl hbt hm2 HE HQ er d4
      go_wp2_with (go_at_call 33; refine HX.out.mono ?_; rintro e w4 ⟨⟨v, L, rfl, hL, hev, hmp⟩, hmk⟩; have hfin := hide (HF.out _ _ ⟨v, L, rfl, hL, hev, hmp⟩); replace hmk := hide (hmk.up (show κ + 200000 ≤ κ + 1000000 by omega) (Nat.le_succ q)); clear hL hev hmp)
      go_ret
      exact ⟨hfin.out, hmk.out⟩
    by_cases d9 : dow = 9
    · subst d9
      have hm := hmay.out
      unfold Msh.may at hm
      dsimp only at hm
      rw [if_neg (by decide), if_neg (by decide), if_pos (.inl rfl)] at hm
      obtain ⟨i, rfl, hi⟩ := runs_nat hm
      have er := (hstep.out (m.put i (m.at' i).stop, []) (by rw [if_neg (by decide), if_neg (by decide), if_neg (by decide), if_neg (by decide), if_neg (by decide), if_pos rfl]; simp only [Int.toNat_natCast])).symm
      have er1 : m.put i (m.at' i).stop = r.1 := congrArg Prod.fst er
      have er2 := hide (show [] = r.2 from congrArg Prod.snd er)
      obtain ⟨x, s, g, c, e1, e2, e3, e4, p0⟩ := hm2.get hi
      rw [e3] at er1
      have hmd := hm2.drew
      have HX := hide ((St_stop (hmd.st i x s e1 e2)).mono fun e w4 hp => show e = .returned (.tuple #[]) ∧ MP y m r.1 w2 w4 by
        rw [← er1]
        exact ⟨hp.1, (hmd.stp e1 e2 hp.2).pre (Below.refl _ _).drew⟩)
      have hk := HQ.out _ (hok.put' i (stop_ok (hok.at e2)))
      rw [er1] at hk
      replace hk := hide hk
      obtain ⟨_, q1, _, _⟩ := hm2.cell
      rw [e4] at q1
      have hin : (i : Int) < (m.S.length : Int) := by omega
      clear hm hmay hstep hok hfl hbt hm2 HF HQ er er1 d4 hmd e1 e2 e3 e4
      go_upto_region 18 with (fail)
      go_region_with (go_at_call 34; refine HX.out.mono ?_; rintro e w4 ⟨rfl, hmp⟩; have hfin := hide (HE.out _ er2.out hmp); clear hmp)
      all_goals
        go_wp2
        go_ret
        exact ⟨hfin.out, hk.out⟩
    by_cases d10 : dow = 10
    · subst d10
      have hm := hmay.out
      unfold Msh.may at hm
      dsimp only at hm
      rw [if_neg (by decide), if_neg (by decide), if_pos (.inr rfl)] at hm
      obtain ⟨i, rfl, hi⟩ := runs_nat hm
      have er := (hstep.out (m.put i { m.at' i with tears := true, whole := max 0 n }, []) (by rw [if_neg (by decide), if_neg (by decide), if_neg (by decide), if_neg (by decide), if_neg (by decide), if_neg (by decide), if_pos rfl]; simp only [Int.toNat_natCast])).symm
      have er1 : m.put i { m.at' i with tears := true, whole := max 0 n } = r.1 := congrArg Prod.fst er
      have er2 := hide (show [] = r.2 from congrArg Prod.snd er)
      obtain ⟨x, s, g, c, e1, e2, e3, e4, p0⟩ := hm2.get hi
      rw [e3] at er1
      have hmd := hm2.drew
      have HX := hide ((St_tear (hmd.st i x s e1 e2) n).mono fun e w4 hp => show e = .returned (.tuple #[]) ∧ MP y m r.1 w2 w4 by
        rw [← er1]
        exact ⟨hp.1, (hmd.stp e1 e2 hp.2).pre (Below.refl _ _).drew⟩)
      have hk := HQ.out _ (hok.put' i (tear_ok (hok.at e2) n))
      rw [er1] at hk
      replace hk := hide hk
      obtain ⟨_, q1, _, _⟩ := hm2.cell
      rw [e4] at q1
      have hin : (i : Int) < (m.S.length : Int) := by omega
      clear hm hmay hstep hok hfl hbt hm2 HF HQ er er1 d4 hmd e1 e2 e3 e4
      go_upto_region 20 with (fail)
      go_region_with (go_at_call 35; refine HX.out.mono ?_; rintro e w4 ⟨rfl, hmp⟩; have hfin := hide (HE.out _ er2.out hmp); clear hmp)
      all_goals
        go_wp2
        go_ret
        exact ⟨hfin.out, hk.out⟩
    by_cases d11 : dow = 11
    · subst d11
      have hm := hmay.out
      unfold Msh.may at hm
      dsimp only at hm
      rw [if_neg (by decide), if_neg (by decide), if_neg (by decide), if_pos rfl, Bool.and_eq_true] at hm
      obtain ⟨i, rfl, hi⟩ := has_nat hm.1
      obtain ⟨x, s, g, c, e1, e2, e3, e4, p0⟩ := hm2.get hi
      have hnd : (m.at' i).nd = none := by
        have h5 := hm.2
        unfold Msh.runs at h5
        rw [hm.1, Int.toNat_natCast] at h5
        cases hn : (m.at' i).nd with
        | none => rfl
        | some v =>
          rw [hn] at h5
          cases h5
      obtain ⟨hbo, hdk⟩ := hbt i rfl hi hnd
      have er := (hstep.out (m.boot i) (by rw [if_neg (by decide), if_neg (by decide), if_neg (by decide), if_neg (by decide), if_neg (by decide), if_neg (by decide), if_neg (by decide), if_pos rfl]; simp only [Int.toNat_natCast])).symm
      unfold Msh.boot at er
      rw [e3] at hnd hbo hdk er
      rw [act_eq e2] at er
      have hHB := fun W (hW : StM x s W) => St_boot hW hnd m.now hbo
      obtain ⟨z, hz⟩ : ∃ z, St.new s.addr s.jrn m.now = z := ⟨_, rfl⟩
      rw [hz] at hdk er hHB
      obtain ⟨m', hm'⟩ : ∃ m', m.put i { s with nd := some z } = m' := ⟨_, rfl⟩
      rw [hm'] at hdk er
      obtain ⟨q0, q1, _, _⟩ := hm2.cell
      rw [e4] at q1
      have hin : (i : Int) < (m.S.length : Int) := by omega
      have hst := hm2.st i x s e1 e2
      have hGl := some_lt hm2.blk
      have hgl : g < w2.heap.size := World.block_lt_of_cell? _ _ p0
      have hDl : w.heap.size < w2.heap.size := World.block_lt_of_cell? _ _ t1
      have hnF : ∀ k, k = y.G ∨ k = g ∨ k = w.heap.size → ¬ StIn x s k := by
        intro k hk hF
        obtain ⟨o, ho, hK⟩ := hst.kind hF
        rcases hk with rfl | rfl | rfl
        · rw [hm2.blk] at ho
          cases ho
          exact hK.not (by decide)
        · obtain ⟨cc, hc⟩ := row_obj hm2.sts (k := k) (by rw [e4]; rfl)
          rw [hc] at ho
          cases ho
          exact hK.not (by decide)
        · rw [hC2] at ho
          cases ho
          exact hK.not (by decide)
      have hS0 : SBo y.G g i x.B w.heap.size m.now (.slice (some ⟨g, 0, none⟩) m.S.length c) w2 := ⟨⟨q0, q1, p0, t1⟩, hGl, hgl, hDl⟩
      have hS := hS0.keep (W' := w2.drew) (Nat.le_refl _) (fun _ _ => rfl)
      have hd1 : Below w2.heap.size w2 w2.drew := (Below.refl _ _).drew
      have hmd := hm2.drew
      have HB2 := hide ((hHB w2.drew (hmd.st i x s e1 e2)).mono fun e w4 hp => show ∃ frm cam drp y2, SBo y.G g i x.B w.heap.size m.now (.slice (some ⟨g, 0, none⟩) m.S.length c) w4 ∧ e = .returned (outV z.jrn z.rep frm cam drp) ∧ OutR w2.heap.size z.frs z.cms z.drs frm cam drp w4 ∧ w2.heap.size ≤ w4.heap.size ∧ MM y2 m' w4 ∧ MU y m y2 m' w2 w4 by
        obtain ⟨frm, cam, drp, he, hp, hor⟩ := hp
        obtain ⟨y2, h5, h6⟩ := hmd.stp e1 e2 hp
        rw [hm'] at h5 h6
        have h7 := hp
        obtain ⟨_, _, _, hfx, _⟩ := h7
        have hsz := hfx.size
        exact ⟨frm, cam, drp, y2, hS.keep hsz fun k hk => hfx.block k (by rcases hk with rfl | rfl | rfl <;> assumption) (hnF k hk), he, hor, h6.fx.size, h5, h6.pre hd1⟩)
      obtain ⟨B, hB⟩ : ∃ B, x.B = B := ⟨_, rfl⟩
      rw [hB] at HB2 hS
      clear hm hmay hstep hok hfl hbt hm2 HE HQ d4 hmd e1 e2 e3 e4 hbo hHB hz hm' hst hGl hgl hDl hnF hS0 hB hd1
      go_upto_region 22 with (fail)
      clear q0 q1 p0 t0 t1 t2 t3 t4 t5 hC2
      refine wp_region_late (SBo y.G g i B w.heap.size m.now (.slice (some ⟨g, 0, none⟩) m.S.length c)) [16, 17] (by kernel_rfl) hS (fun hHeld => ?_)
      refine wpAnyD_take (i := 0) (v := ?hv0) rfl (by kernel_rfl) (by kernel_rfl) (by kernel_rfl) (by kernel_rfl) (fun _ _ _ h => h) (Or.inl ⟨by rfl, ?hy0⟩) hHeld ?hr0
      case hy0 =>
        rintro w5 ⟨⟨q0, q1, p0, t1⟩, _⟩
        go_simp
        try with_reducible rfl
      try simp only [Act.put, List.setIfInBounds_toArray, List.set_cons_zero, List.set_cons_succ]
      refine wpAnyD_take (i := 1) (v := ?hv1) rfl (by kernel_rfl) (by kernel_rfl) (by kernel_rfl) (by kernel_rfl) (fun _ _ _ h => h) (Or.inl ⟨by rfl, ?hy1⟩) hHeld ?hr1
      case hy1 =>
        rintro w5 ⟨⟨q0, q1, p0, t1⟩, _⟩
        go_simp
        try with_reducible rfl
      try simp only [Act.put, List.setIfInBounds_toArray, List.set_cons_zero, List.set_cons_succ]
      refine wpAnyD_take (i := 2) (v := ?hv2) rfl (by kernel_rfl) (by kernel_rfl) (by kernel_rfl) (by kernel_rfl) (fun _ _ _ h => h) (Or.inl ⟨by rfl, ?hy2⟩) hHeld ?hr2
      case hy2 =>
        rintro w5 ⟨⟨q0, q1, p0, t1⟩, _⟩
        go_simp
        try with_reducible rfl
      try simp only [Act.put, List.setIfInBounds_toArray, List.set_cons_zero, List.set_cons_succ]
      refine wpAnyD_take (i := 3) (v := ?hv3) rfl (by kernel_rfl) (by kernel_rfl) (by kernel_rfl) (by kernel_rfl) (fun _ _ _ h => h) (Or.inl ⟨by rfl, ?hy3⟩) hHeld ?hr3
      case hy3 =>
        rintro w5 ⟨⟨q0, q1, p0, t1⟩, _⟩
        go_simp
        try with_reducible rfl
      try simp only [Act.put, List.setIfInBounds_toArray, List.set_cons_zero, List.set_cons_succ]
      refine wpAnyD_take (i := 4) (v := ?hv4) rfl (by kernel_rfl) (by kernel_rfl) (by kernel_rfl) (by kernel_rfl) (fun _ _ _ h => h) (Or.inl ⟨by rfl, ?hy4⟩) hHeld ?hr4
      case hy4 =>
        rintro w5 ⟨⟨q0, q1, p0, t1⟩, _⟩
        go_simp
        try with_reducible rfl
      try simp only [Act.put, List.setIfInBounds_toArray, List.set_cons_zero, List.set_cons_succ]
      refine wpAnyD_take (i := 5) (v := ?hv5) rfl (by kernel_rfl) (by kernel_rfl) (by kernel_rfl) (by kernel_rfl) (fun _ _ _ h => h) (Or.inl ⟨by rfl, ?hy5⟩) hHeld ?hr5
      case hy5 =>
        rintro w5 ⟨⟨q0, q1, p0, t1⟩, _⟩
        go_simp
        try with_reducible rfl
      try simp only [Act.put, List.setIfInBounds_toArray, List.set_cons_zero, List.set_cons_succ]
      refine wpAnyD_take (i := 6) (v := ?hv6) rfl (by kernel_rfl) (by kernel_rfl) (by kernel_rfl) (by kernel_rfl) (fun _ _ _ h => h) (Or.inl ⟨by rfl, ?hy6⟩) hHeld ?hr6
      case hy6 =>
        rintro w5 ⟨⟨q0, q1, p0, t1⟩, _⟩
        go_simp
        try with_reducible rfl
      try simp only [Act.put, List.setIfInBounds_toArray, List.set_cons_zero, List.set_cons_succ]
      refine wpAnyD_take (i := 7) (v := ?hv7) rfl (by kernel_rfl) (by kernel_rfl) (by kernel_rfl) (by kernel_rfl) (fun _ _ _ h => h) (Or.inl ⟨by rfl, ?hy7⟩) hHeld ?hr7
      case hy7 =>
        rintro w5 ⟨⟨q0, q1, p0, t1⟩, _⟩
        go_simp
        try with_reducible rfl
      try simp only [Act.put, List.setIfInBounds_toArray, List.set_cons_zero, List.set_cons_succ]
      refine wpAnyD_take (i := 8) (v := ?hv8) rfl (by kernel_rfl) (by kernel_rfl) (by kernel_rfl) (by kernel_rfl) (fun _ _ _ h => h) (Or.inl ⟨by rfl, ?hy8⟩) hHeld ?hr8
      case hy8 =>
        rintro w5 ⟨⟨q0, q1, p0, t1⟩, _⟩
        go_simp
        try with_reducible rfl
      try simp only [Act.put, List.setIfInBounds_toArray, List.set_cons_zero, List.set_cons_succ]
      refine wpAnyD_take (i := 9) (v := ?hv9) rfl (by kernel_rfl) (by kernel_rfl) (by kernel_rfl) (by kernel_rfl) (fun _ _ _ h => h) (Or.inl ⟨by rfl, ?hy9⟩) hHeld ?hr9
      case hy9 =>
        rintro w5 ⟨⟨q0, q1, p0, t1⟩, _⟩
        go_simp
        try with_reducible rfl
      try simp only [Act.put, List.setIfInBounds_toArray, List.set_cons_zero, List.set_cons_succ]
      refine wpAnyD_take (i := 10) (v := ?hv10) rfl (by kernel_rfl) (by kernel_rfl) (by kernel_rfl) (by kernel_rfl) (fun _ _ _ h => h) (Or.inl ⟨by rfl, ?hy10⟩) hHeld ?hr10
      case hy10 =>
        rintro w5 ⟨⟨q0, q1, p0, t1⟩, _⟩
        go_simp
        try with_reducible rfl
      try simp only [Act.put, List.setIfInBounds_toArray, List.set_cons_zero, List.set_cons_succ]
      refine wpAnyD_take (i := 11) (v := ?hv11) rfl (by kernel_rfl) (by kernel_rfl) (by kernel_rfl) (by kernel_rfl) (fun _ _ _ h => h) (Or.inl ⟨by rfl, ?hy11⟩) hHeld ?hr11
      case hy11 =>
        rintro w5 ⟨⟨q0, q1, p0, t1⟩, _⟩
        go_simp
        try with_reducible rfl
      try simp only [Act.put, List.setIfInBounds_toArray, List.set_cons_zero, List.set_cons_succ]
      refine wpAnyD_take (i := 12) (v := ?hv12) rfl (by kernel_rfl) (by kernel_rfl) (by kernel_rfl) (by kernel_rfl) (fun _ _ _ h => h) (Or.inl ⟨by rfl, ?hy12⟩) hHeld ?hr12
      case hy12 =>
        rintro w5 ⟨⟨q0, q1, p0, t1⟩, _⟩
        go_simp
        try with_reducible rfl
      try simp only [Act.put, List.setIfInBounds_toArray, List.set_cons_zero, List.set_cons_succ]
      refine wpAnyD_take (i := 13) (v := ?hv13) rfl (by kernel_rfl) (by kernel_rfl) (by kernel_rfl) (by kernel_rfl) (fun _ _ _ h => h) (Or.inl ⟨by rfl, ?hy13⟩) hHeld ?hr13
      case hy13 =>
        rintro w5 ⟨⟨q0, q1, p0, t1⟩, _⟩
        go_simp
        try with_reducible rfl
      try simp only [Act.put, List.setIfInBounds_toArray, List.set_cons_zero, List.set_cons_succ]
      refine wpAnyD_take (i := 14) (v := ?hv14) rfl (by kernel_rfl) (by kernel_rfl) (by kernel_rfl) (by kernel_rfl) (fun _ _ _ h => h) (Or.inl ⟨by rfl, ?hy14⟩) hHeld ?hr14
      case hy14 =>
        rintro w5 ⟨⟨q0, q1, p0, t1⟩, _⟩
        go_simp
        try with_reducible rfl
      try simp only [Act.put, List.setIfInBounds_toArray, List.set_cons_zero, List.set_cons_succ]
      refine wpAnyD_one (i := 15) (by kernel_rfl) rfl (fun K2 hK2 => ?_)
      go_simp
      go_at_call 37
      refine HB2.out.mono ?_
      rintro e w4 ⟨frm, cam, drp, y2, hS2, rfl, hor, hsz, hm4, hu4⟩
      have HDd := M_didA hm4 hdk frm cam drp w2.heap.size hor hsz
      rw [hu4.G] at HDd
      go_simp
      refine hK2.out _ _ (fun _ => hS2) ?_
      clear hK2 K2 HB2
      refine wpAnyD_one (i := 16) (by kernel_rfl) rfl (fun K3 hK3 => ?_)
      replace HDd := hide HDd
      replace hu4 := hide hu4
      replace hdk := hide hdk
      clear hor hm4 hS2 hHeld hS
      go_simp
      go_at_call 36
      refine HDd.out.mono ?_
      rintro e w6 ⟨v, L, rfl, hL, hev, y3, hm6, hu6⟩
      have hfin := HF.out (.returned v) w6 (by rw [← er]; exact ⟨v, L, rfl, hL, hev, y3, hm6, hu4.out.trans hu6⟩)
      have hk := (did_ok hdk.out).up (show κ + 100000 ≤ κ + 1000000 by omega) (Nat.le_succ q)
      rw [er] at hk
      have hfk := hide (And.intro hfin hk)
      clear hL hev hm6 hu6 HDd hu4 hdk HF hfin hk er
      go_simp
      refine hK3.out _ _ (fun h => (h (by decide)).elim) ?_
      clear hK3 K3
      refine wpAnyD_one (i := 17) (by kernel_rfl) rfl (fun K4 hK4 => ?_)
      go_simp
      refine hK4.out _ _ (fun h => (h (by decide)).elim) ?_
      clear hK4 K4
      refine wpAnyD_done (by kernel_rfl) ?_ _
      go_wp2
      go_ret
      exact hfk.out
    · have er := (hstep.out (m, []) (by rw [if_neg d1, if_neg d2, if_neg d3, if_neg d4, if_neg d8, if_neg d9, if_neg d10, if_neg d11])).symm
      have er1 : m = r.1 := congrArg Prod.fst er
      have er2 := (show [] = r.2 from congrArg Prod.snd er)
      have hfin := HE.out w2 er2 (by rw [← er1]; exact MP.refl hm2)
      have hk := HQ.out _ hok
      rw [er1] at hk
      have hfk := hide (And.intro hfin hk)
      have d41 : ¬ dow = 4 := fun e => d4 (.inl e)
      have d42 : ¬ dow = 5 := fun e => d4 (.inr (.inl e))
      have d43 : ¬ dow = 6 := fun e => d4 (.inr (.inr (.inl e)))
      have d44 : ¬ dow = 7 := fun e => d4 (.inr (.inr (.inr e)))
      clear hmay hstep hok hfl hbt hm2 HF HQ HE er er1 er2 d4 hk hfin
      go_wp2
      go_ret
      exact hfk.out
end Go.Proofs.YtakaadcpaeiccabGreat

namespace Go.Proofs.YtakaadcpaeiccabGreat

/-! A node that begins, as plain data. -/
theorem newsP_pos (q own : Int) (f : Int → Option Int) (A : List Rt) (h : own < q) : 0 < (newsP q own f A).2.length := by
  have h1 : ∀ (A : List Rt) (st : (Int → Option Int) × List (Bool × Int × Int)), 0 < st.2.length → 0 < (A.foldl nwsS st).2.length := by
    intro A
    induction A with
    | nil => intro st hs; exact hs
    | cons y A ih =>
      intro st hs
      rw [List.foldl_cons]
      refine ih _ ?_
      unfold nwsS
      split
      · simp
      · exact hs
  refine h1 A _ ?_
  unfold nwsO
  rw [if_pos h]
  exact Nat.succ_pos 0
theorem gr_pos {s : Int} (h : U32 s) : 0 < gr s := by unfold U32 gr at *; omega
theorem raw_news {me now : Int} {xs : List Int} (hbd : RBd (jl xs)) : 0 < (St.raw me xs now).write.nws.length := by
  show 0 < (([] : List (Bool × Int × Int)) ++ (newsP (gr ((owL (jl xs)).getD 0)) 0 _ _).2).length
  rw [List.nil_append]
  exact newsP_pos _ _ _ _ (gr_pos (own_u32' hbd))
theorem raw_A {me now : Int} {xs : List Int} (hbd : RBd (jl xs)) : (∀ y ∈ (St.raw me xs now).A, y.Ok) ∧ (St.raw me xs now).A.length ≤ 8 := by
  have hc := cmpL_is hbd
  have e : (St.raw me xs now).A = nwL me ((cmpL (jl xs)).take (cmpL (jl xs)).length) := by rw [List.take_length]; rfl
  rw [e]
  refine ⟨fun y hy => ?_, nwL_len _ _ _⟩
  obtain ⟨j, x, _, hj, hp, rfl⟩ := nwL_mem _ _ _ y hy
  have hx1 : x.1 = false := by
    unfold nwP at hp
    simp only [Bool.and_eq_true, Bool.not_eq_true'] at hp
    exact hp.1
  obtain ⟨h1, h2⟩ := nwR_ok hbd hc (List.mem_of_getElem? hj) hx1
  exact nwR_rok h1 h2
/-- What holds of a node that has just begun. -/
theorem new_ok {κ : Int} {q : Nat} {now : Int} {s : Stn} (h : SOk κ q now s) (hκ : 1 ≤ κ) (hnow : 0 ≤ now ∧ now ≤ 4611686018427387904) : NOk κ q now { s with nd := some (St.new s.addr s.jrn now) } (St.new s.addr s.jrn now) := by
  have hbd := jl_bd h.jb
  have hm := raw_mid h.addr hbd hnow
  obtain ⟨hA, hl⟩ := raw_A (me := s.addr) (now := now) hbd
  have hi := inv_finish hm (by omega) rfl hA hl
  have e := finish_same (St.raw s.addr s.jrn now)
  rw [St.new_eq]
  refine ⟨inv_le hi (by omega), fun a ha => ?_, e.me, by rw [e.now]; exact Int.le_refl _, by rw [e.Q]; exact Nat.zero_le _, by rw [e.A]; exact hA, by rw [e.A]; exact hl⟩
  rw [e.Q] at ha
  cases ha
theorem new_pre {κ : Int} {q : Nat} {now : Int} {s : Stn} (h : SOk κ q now s) (hκ : 1 ≤ κ) (hnow : 0 ≤ now ∧ now ≤ 4611686018427387904) : SPre κ q now { s with nd := some (St.new s.addr s.jrn now) } (St.new s.addr s.jrn now) := by
  have hbd := jl_bd h.jb
  have hn := raw_news (me := s.addr) (now := now) hbd
  have hc : CntP 0 (St.new s.addr s.jrn now) := by
    rw [St.new_eq]
    exact cnt_finish (s := St.raw s.addr s.jrn now) rfl (.inr ⟨rfl, hn⟩)
  have hnw : 0 < (St.new s.addr s.jrn now).nws.length := by
    rw [St.new_eq]
    unfold St.finish
    split
    · show 0 < (St.cmp _).length
      rw [cmp_len]
      exact Nat.succ_pos _
    · exact hn
  refine ⟨h.addr, h.a0, h.jb, h.jl, h.wh, rfl, new_ok h hκ hnow, fun hr => ?_, fun hr => (hc.yes hr).1, ?_⟩
  · have hx : s.jrn = [] := by
      rw [St.new_eq] at hr
      unfold St.finish at hr
      split at hr
      · cases hr
      · have h5 : decide (s.jrn ≠ []) = false := hr
        simpa using h5
    have := hc.no hr
    show 13 * (St.new s.addr s.jrn now).cnt = ((s.jrn.length : Nat) : Int) + _
    rw [hx] at this ⊢
    simp only [List.length_nil]
    omega
  · cases hr : (St.new s.addr s.jrn now).rep with
    | false =>
      have := hc.no hr
      omega
    | true =>
      have := hc.yes hr
      omega
/-- A node that stands may begin. -/
theorem boot_dok {κ : Int} {q : Nat} {m : Msh} (hok : MOk κ q m) (hκ : 1 ≤ κ) {i : Nat} (hi : i < m.S.length) : BootOk (m.at' i) m.now ∧ DOk κ q (m.put i { m.at' i with nd := some (St.new (m.at' i).addr (m.at' i).jrn m.now) }) i (St.new (m.at' i).addr (m.at' i).jrn m.now) := by
  have hS : m.S[i]? = some (m.at' i) := by
    have h1 := List.getElem?_eq_getElem hi
    rw [at_of h1]
    exact h1
  have hs := hok.at hS
  refine ⟨⟨hs.addr, hs.a0, hs.jb, by have := hs.jl; omega, hok.now⟩, ⟨by rw [(put_S _ _ _).1, List.length_set]; exact hok.n, hok.air, hok.now, fun j u hu hne => ?_, ⟨{ m.at' i with nd := some (St.new (m.at' i).addr (m.at' i).jrn m.now) }, by rw [(put_S _ _ _).1, List.getElem?_set_self hi], new_pre hs hκ hok.now⟩⟩⟩
  rw [(put_S _ _ _).1, List.getElem?_set_ne (Ne.symm hne)] at hu
  exact hok.at hu
end Go.Proofs.YtakaadcpaeiccabGreat

namespace Go.Proofs.YtakaadcpaeiccabGreat
open Go.RowKit Go.Maps

/-! Addresses that fit a mesh. -/
set_option maxRecDepth 100000 in
set_option maxHeartbeats 4000000 in
theorem Index_no (ao : Option Addr) (g n c : Nat) (hao : 0 < n → ao = some ⟨g, 0, none⟩) (L : List Int) (d : Int) (w : World) (hn : n ≤ 100) (hc : ∀ k, k < n → w.cell? ⟨g, k, none⟩ = some (.int .u32 (L.getD k 0))) (hd : ∀ k, k < n → L.getD k 0 ≠ d) :
    Calls Tryz.prog 136 #[.slice ao n c, .int .u32 d] w fun e w' => e = .returned (.int .i64 (-1)) ∧ w' = w := by
  go_enter Tryz.func136, Tryz.ntmps136
  go_wp2_with fail
  go_loopw [8] (fun i wr => ∃ (j : Nat), j ≤ n ∧ i = .int .i64 j ∧ wr = w) (fun i _ => n - (intOf i).toNat)
  case atStart => exact ⟨0, Nat.zero_le _, rfl, rfl⟩
  case round =>
    obtain ⟨j, hj, rfl, rfl⟩ := hrel
    by_cases hlt : j < n
    · have hix : (j : Int) < (n : Int) := by omega
      have hne : (d == L.getD j 0) = false := by
        rw [beq_eq_false_iff_ne]
        exact fun e => hd j hlt e.symm
      have h0 := hc j hlt
      obtain ⟨x, hx⟩ : ∃ x, L.getD j 0 = x := ⟨_, rfl⟩
      rw [hx] at h0 hne
      cases hao (by omega)
      clear hc hd hx hao
      go_wp2
      go_roundw
      case rel => exact ⟨j + 1, by omega, by go_num, by trivial⟩
      case measure => simp [intOf]; omega
    · obtain rfl : j = n := by omega
      clear hc hd hao
      go_wp2
      go_ret
      exact ⟨rfl, rfl⟩
set_option maxRecDepth 100000 in
set_option maxHeartbeats 4000000 in
theorem Contains_no (ao : Option Addr) (g n c : Nat) (hao : 0 < n → ao = some ⟨g, 0, none⟩) (L : List Int) (d : Int) (w : World) (hn : n ≤ 100) (hc : ∀ k, k < n → w.cell? ⟨g, k, none⟩ = some (.int .u32 (L.getD k 0))) (hd : ∀ k, k < n → L.getD k 0 ≠ d) :
    Calls Tryz.prog 97 #[.slice ao n c, .int .u32 d] w fun e w' => e = .returned (.bool false) ∧ w' = w := by
  have HI := hide (Index_no ao g n c hao L d w hn hc hd)
  clear hc hd hao
  go_enter Tryz.func97, Tryz.ntmps97
  go_wp2_with (go_at_call 136; refine HI.out.mono ?_; rintro e w2 ⟨rfl, hw⟩; replace hw := hide hw)
  go_ret
  exact ⟨rfl, hw.out⟩
set_option maxRecDepth 100000 in
set_option maxHeartbeats 4000000 in
theorem fit_yes (g n c : Nat) (L : List Int) (w : World) (hn : 0 < n ∧ n ≤ 6) (hcap : n ≤ c) (hc : ∀ k, k < n → w.cell? ⟨g, k, none⟩ = some (.int .u32 (L.getD k 0))) (h0 : ∀ k, k < n → L.getD k 0 ≠ 0) (hd : ∀ j k, j < k → k < n → L.getD j 0 ≠ L.getD k 0) :
    Calls Tryz.prog 61 #[.slice (some ⟨g, 0, none⟩) n c] w fun e w' => e = .returned (.bool true) ∧ w' = w := by
  have hz : ((n : Int) == 0) = false := by
    rw [beq_eq_false_iff_ne]
    omega
  have hs : decide ((n : Int) > 6) = false := decide_eq_false (by omega)
  have hs' : decide (6 < (n : Int)) = false := decide_eq_false (by omega)
  have hz' : decide ((n : Int) = 0) = false := decide_eq_false (by omega)
  have HC := hide fun (k : Nat) (hk : k < n) => Contains_no (some ⟨g, 0, none⟩) g k c (fun _ => rfl) L (L.getD k 0) w (by omega) (fun j hj => hc j (by omega)) (fun j hj => hd j k hj hk)
  replace hc := hide hc
  replace h0 := hide h0
  clear hd
  go_enter Tryz.func61, Tryz.ntmps61
  go_wp2_with fail
  go_loopw [15] (fun i wr => ∃ (j : Nat), j ≤ n ∧ i = .int .i64 j ∧ wr = w) (fun i _ => n - (intOf i).toNat)
  case atStart => exact ⟨0, Nat.zero_le _, rfl, rfl⟩
  case round =>
    obtain ⟨j, hj, rfl, rfl⟩ := hrel
    by_cases hlt : j < n
    · have hix : (j : Int) < (n : Int) := by omega
      have hjc : (j : Int) ≤ (c : Int) := by omega
      have hne : (L.getD j 0 == 0) = false := by
        rw [beq_eq_false_iff_ne]
        exact h0.out j hlt
      have k0 := hc.out j hlt
      have HX := hide (HC.out j hlt)
      obtain ⟨x, hx⟩ : ∃ x, L.getD j 0 = x := ⟨_, rfl⟩
      rw [hx] at k0 hne HX
      clear hc h0 HC hx
      go_wp2_with (go_at_call 97; refine HX.out.mono ?_; rintro e w2 ⟨rfl, hw⟩; obtain rfl := hw)
      go_roundw
      case rel => exact ⟨j + 1, by omega, by go_num, by trivial⟩
      case measure => simp [intOf]; omega
    · obtain rfl : j = n := by omega
      clear hc h0 HC
      go_wp2
      go_ret
      exact ⟨rfl, rfl⟩
end Go.Proofs.YtakaadcpaeiccabGreat
