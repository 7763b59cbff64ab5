import Derived.Test.YtakaadcpaeiccabGreatC43
import Derived.Test.YtakaadcpaeiccabGreatC37
import Derived.Test.YtakaadcpaeiccabGreatC44
import Derived.Test.YtakaadcpaeiccabGreatC28
import Derived.Test.YtakaadcpaeiccabGreatC05
namespace Go.Proofs.YtakaadcpaeiccabGreat
open Go.RowKit Go.Maps Go.MuLone

/-! A node begins, in general. -/
theorem cmpL_go {J : List (Bool × Int × Int)} (h : RBd J) : ∀ (f : Int → Option Int) (c : Option Int) (o : List (Bool × Int × Int)), IsCmp f c o → IsCmp (J.foldl stepM f) (J.foldl stepO c) (J.foldl (fun o r => putL o (norm r)) o) := by
  induction J with
  | nil => intro f c o h; exact h
  | cons y J ih =>
    intro f c o hc
    simp only [List.foldl_cons]
    exact ih (fun z hz => h z (List.mem_cons_of_mem _ hz)) _ _ _ (hc.put y (rbd_u h (List.mem_cons_self ..)).2.1)
theorem cmpL_is {J : List (Bool × Int × Int)} (h : RBd J) : IsCmp (mpL J) (owL J) (cmpL J) := cmpL_go h _ _ _ IsCmp.nil
theorem own_u32' {J : List (Bool × Int × Int)} (h : RBd J) : U32 ((owL J).getD 0) := by
  have : ∀ (J : List (Bool × Int × Int)) (c : Option Int), RBd J → OB c → OB (J.foldl stepO c) := by
    intro J
    induction J with
    | nil => intro c _ h; exact h
    | cons y J ih =>
      intro c hJ hc
      rw [List.foldl_cons]
      exact ih _ (fun z hz => hJ z (List.mem_cons_of_mem _ hz)) (hc.step (rbd_u hJ (List.mem_cons_self ..)).2)
  exact (this J none h ob_nil).getD
/-- A node, before its first writing. -/
def St.raw (me : Int) (xs : List Int) (now : Int) : St :=
  ⟨me, gr ((owL (jl xs)).getD 0), if xs = [] then 0 else now + 2000, 0, 0, nwL me (cmpL (jl xs)), [], 0, fun _ => none, 0, 0, [], 0, [], now, [], [], [], [], decide (xs ≠ []), 0⟩
theorem St.new_eq (me : Int) (xs : List Int) (now : Int) : St.new me xs now = (St.raw me xs now).finish := rfl
theorem u32_zero : U32 0 := by unfold U32; omega
theorem raw_mid {me : Int} {xs : List Int} {now : Int} (hU : U32 me) (hbd : RBd (jl xs)) (hnow : 0 ≤ now ∧ now ≤ 4611686018427387904) : (St.raw me xs now).Mid 0 0 :=
  ⟨hU, gr_u32 (own_u32' hbd), hnow, fun _ h => (by cases h), ⟨fun _ _ h => (by cases h), fun _ h => (by cases h), u32_zero⟩, by dsimp only [St.raw]; omega, Nat.le_refl _, fun _ h => (by cases h), Nat.le_refl _, Nat.le_refl _, Nat.le_refl _, by dsimp only [St.raw]; omega, by dsimp only [St.raw]; omega, Nat.zero_le _, List.Pairwise.nil, fun _ h => (by cases h), fun _ h => (by cases h)⟩

theorem TR.lower {base b T M : Nat} {last : Int} {h : List Hp.Tm} {v : Value} {W : World} (r : TR base T M last h v W) (hb : b ≤ base) : TR b T M last h v W :=
  ⟨r.blk, ownsRow_base_a r.row hb, r.map, r.ok, Nat.le_trans hb r.bT, Nat.le_trans hb r.bM⟩
theorem MT.later' {me : Int} {T M : Nat} {f : Int → Option Nat} {g : Int → Value} {A : List Rt} {W W' : World} (h : MT me T M f g A W) (hb : Below W.heap.size W W') : MT me T M f g A W' := h.kept fun k hk => hb.block k (h.lt hk)
theorem TR.later' {b T M : Nat} {last : Int} {h : List Hp.Tm} {v : Value} {W W' : World} (r : TR b T M last h v W) (hb : Below W.heap.size W W') : TR b T M last h v W' :=
  r.at (hb.block _ r.blk.lt) (by obtain ⟨f, p1, _⟩ := r.map; exact hb.block _ p1.lt) fun k hk => hb.block _ (r.row.lt k hk).2
set_option maxHeartbeats 1000000 in
theorem newSeen_map (w : World) :
    Calls Tryz.prog 45 #[] w fun e w' => ∃ Ms, e = .returned (.agg #[.map (some Ms), .int .i64 0]) ∧ Below w.heap.size w w' ∧ SnM Ms 0 [] w' ∧ w.heap.size ≤ Ms := by
  have hmm := @run_makeMap Tryz.prog
  have hbA : Below w.heap.size w (w.alloc (.cells #[.map (some (w.heap.size + 1)), .int .i64 0] 113)) := (Below.refl _ _).alloc (Nat.le_refl _) _
  have hb : Below w.heap.size w ((w.alloc (.cells #[.map (some (w.heap.size + 1)), .int .i64 0] 113)).alloc (.map #[] 0)) := hbA.alloc hbA.size _
  have hC : ((w.alloc (.cells #[.map (some (w.heap.size + 1)), .int .i64 0] 113)).alloc (.map #[] 0)).heap[w.heap.size]? = some (.cells #[.map (some (w.heap.size + 1)), .int .i64 0] 113) := (((Below.refl _ (w.alloc (.cells #[.map (some (w.heap.size + 1)), .int .i64 0] 113))).alloc (Nat.le_refl _) _).block w.heap.size (by simp)).trans (heap_alloc_new _ _)
  have hM := SnM.made (w.alloc (.cells #[.map (some (w.heap.size + 1)), .int .i64 0] 113))
  rw [World.size_alloc] at hM
  go_enter Tryz.func45, Tryz.ntmps45
  go_wp2
  generalize World.alloc (World.alloc _ _) _ = W at hb hC hM ⊢
  have p0 : W.cell? ⟨w.heap.size, 0, none⟩ = some (.map (some (w.heap.size + 1))) := cell_of_row _ _ 0 _ _ _ hC
  have p1 : W.cell? ⟨w.heap.size, 1, none⟩ = some (.int .i64 0) := cell_of_row _ _ 1 _ _ _ hC
  exact bodyPost_ret (v := .agg #[.map (some (w.heap.size + 1)), .int .i64 0]) (by simp [results, Tryz.results45, go_sem, p0, p1]) rfl ⟨_, rfl, hb, hM, Nat.le_succ _⟩

set_option maxHeartbeats 1000000 in
theorem newDiary_map (w : World) :
    Calls Tryz.prog 46 #[] w fun e w' => ∃ Mo, e = .returned (.agg #[.int .u32 0, .map (some Mo), .int .i64 0]) ∧ Below w.heap.size w w' ∧ MapU w' Mo (fun _ => none) 0 ∧ w.heap.size ≤ Mo := by
  have hmm := @run_makeMap Tryz.prog
  have hbA : Below w.heap.size w (w.alloc (.cells #[.int .u32 0, .map (some (w.heap.size + 1)), .int .i64 0] 117)) := (Below.refl _ _).alloc (Nat.le_refl _) _
  have hb : Below w.heap.size w ((w.alloc (.cells #[.int .u32 0, .map (some (w.heap.size + 1)), .int .i64 0] 117)).alloc (.map #[] 0)) := hbA.alloc hbA.size _
  have hC : ((w.alloc (.cells #[.int .u32 0, .map (some (w.heap.size + 1)), .int .i64 0] 117)).alloc (.map #[] 0)).heap[w.heap.size]? = some (.cells #[.int .u32 0, .map (some (w.heap.size + 1)), .int .i64 0] 117) := (((Below.refl _ (w.alloc (.cells #[.int .u32 0, .map (some (w.heap.size + 1)), .int .i64 0] 117))).alloc (Nat.le_refl _) _).block w.heap.size (by simp)).trans (heap_alloc_new _ _)
  have hM := MapU.made (w.alloc (.cells #[.int .u32 0, .map (some (w.heap.size + 1)), .int .i64 0] 117))
  rw [World.size_alloc] at hM
  go_enter Tryz.func46, Tryz.ntmps46
  go_wp2
  generalize World.alloc (World.alloc _ _) _ = W at hb hC hM ⊢
  have p0 : W.cell? ⟨w.heap.size, 0, none⟩ = some (.int .u32 0) := cell_of_row _ _ 0 _ _ _ hC
  have p1 : W.cell? ⟨w.heap.size, 1, none⟩ = some (.map (some (w.heap.size + 1))) := cell_of_row _ _ 1 _ _ _ hC
  have p2 : W.cell? ⟨w.heap.size, 2, none⟩ = some (.int .i64 0) := cell_of_row _ _ 2 _ _ _ hC
  exact bodyPost_ret (v := .agg #[.int .u32 0, .map (some (w.heap.size + 1)), .int .i64 0]) (by simp [results, Tryz.results46, go_sem, p0, p1, p2]) rfl ⟨_, rfl, hb, hM, Nat.le_succ _⟩
/-- What a node that begins leaves. -/
def NewP (s : St) (w : World) (e : Ending) (w' : World) : Prop :=
  ∃ N g frm cam drp, e = .returned (.tuple #[.pointer (some ⟨N, 0, none⟩), outV s.jrn s.rep frm cam drp, .int .i64 0]) ∧ Nn N g s [] w' ∧ w'.ownsRow w.heap.size 77 2 frm s.frs.length (FrC s.frs) ∧ w'.ownsRow w.heap.size 56 2 cam s.cms.length (FrC s.cms) ∧ w'.ownsRow w.heap.size 195 1 drp s.drs.length (DrC s.drs) ∧ Below w.heap.size w w' ∧ ∀ k, Ft N g s k → w.heap.size ≤ k

/-- A node as it is laid. -/
theorem nn_laid {me q : Int} {A : List Rt} {T M Ms Mo Mr B : Nat} {ff : Int → Option Nat} {gg : Int → Value} {w9 : World} (now : Int) (hMT : MT me T M ff gg A w9) (hSn : SnM Ms 0 [] w9) (hMo : MapU w9 Mo (fun _ => none) 0) (hMr : MapP w9 Mr (fun _ => none) 0) (hTm : TR 0 (B + 1) B 0 [] (.slice none 0 0) w9) (h1 : M < Ms) (h2 : Ms < Mo) (h3 : Mo < Mr) (h4 : Mr < B) :
    Nd w9.heap.size (w9.heap.size + 1) ⟨⟨0, me, q, 0, T, Ms, 0, 0, Mo, 0, 0, 0, Mr, B + 1, .slice none 0 0⟩, acZ now, M, ff, gg, 0, fun _ => none, fun _ => .slice none 0 0, B, [], .slice none 0 0⟩ ⟨me, q, 0, 0, 0, A, [], 0, fun _ => none, 0, 0, [], 0, [], now, [], [], [], [], false, 0⟩ [] ((w9.alloc (ndBox ⟨0, me, q, 0, T, Ms, 0, 0, Mo, 0, 0, 0, Mr, B + 1, .slice none 0 0⟩)).alloc (acBox (acZ now))) := by
  have hb1 : Below w9.heap.size w9 (w9.alloc (ndBox ⟨0, me, q, 0, T, Ms, 0, 0, Mo, 0, 0, 0, Mr, B + 1, .slice none 0 0⟩)) := (Below.refl _ _).alloc (Nat.le_refl _) _
  have hn1 := heap_alloc_new w9 (ndBox ⟨0, me, q, 0, T, Ms, 0, 0, Mo, 0, 0, 0, Mr, B + 1, .slice none 0 0⟩)
  have hsz : (w9.alloc (ndBox ⟨0, me, q, 0, T, Ms, 0, 0, Mo, 0, 0, 0, Mr, B + 1, .slice none 0 0⟩)).heap.size = w9.heap.size + 1 := by simp
  generalize w9.alloc (ndBox ⟨0, me, q, 0, T, Ms, 0, 0, Mo, 0, 0, 0, Mr, B + 1, .slice none 0 0⟩) = W1 at hb1 hn1 hsz ⊢
  have nn1 : Nn w9.heap.size ⟨⟨0, me, q, 0, T, Ms, 0, 0, Mo, 0, 0, 0, Mr, B + 1, .slice none 0 0⟩, acZ now, M, ff, gg, 0, fun _ => none, fun _ => .slice none 0 0, B, [], .slice none 0 0⟩ ⟨me, q, 0, 0, 0, A, [], 0, fun _ => none, 0, 0, [], 0, [], now, [], [], [], [], false, 0⟩ [] W1 :=
    ⟨⟨hn1, hMo.block (hb1.block _ hMo.lt), hMT.later' hb1, by dsimp only; omega⟩, ⟨rfl, rfl, rfl, rfl, rfl, rfl, rfl, rfl, rfl⟩,
     ⟨hSn.block (hb1.block _ hSn.lt), ⟨hMr.block (hb1.block _ hMr.lt), List.Pairwise.nil, fun _ h => (by cases h), fun _ _ _ h => (by cases h), fun _ h => (by cases h), fun _ h => (by cases h), fun _ h => (by cases h), Nat.zero_le _⟩, hTm.later' hb1, (fun _ _ h => absurd h (Nat.not_lt_zero _)), List.Perm.refl _, ⟨rfl, .inl ⟨rfl, rfl⟩⟩⟩,
     by
      have e1 : M ≠ Mo := by omega
      have e2 : M ≠ Ms := by omega
      have e3 : M ≠ Mr := by omega
      have e4 : M ≠ B := by omega
      have e5 : Mo ≠ Ms := by omega
      have e6 : Mo ≠ Mr := by omega
      have e7 : Mo ≠ B := by omega
      have e8 : Ms ≠ Mr := by omega
      have e9 : Ms ≠ B := by omega
      have e10 : Mr ≠ B := by omega
      simp [e1, e2, e3, e4, e5, e6, e7, e8, e9, e10], by dsimp only; omega⟩
  have hb2 : Below W1.heap.size W1 (W1.alloc (acBox (acZ now))) := (Below.refl _ _).alloc (Nat.le_refl _) _
  have ha := AcM.zero now W1
  rw [hsz] at ha
  exact ⟨nn1.later hb2, ha, rfl, rfl⟩
theorem AcM.setReplace {B base : Nat} {a : AcV} {nws : List (Bool × Int × Int)} {frs cms : List (Int × ByteArray)} {drs : List Int} {W : World} (h : AcM B base a nws frs cms drs W) (b : Bool) :
    AcM B base { a with rep := b } nws frs cms drs (W.setCell ⟨B, 3, none⟩ (.bool b)) ∧ W.grownBy (W.setCell ⟨B, 3, none⟩ (.bool b)) (some B) := by
  have hg := grown_cellOf (grown_self W (some B)) 3 (.bool b)
  exact ⟨⟨h.blk.setRep b, h.wrt.kept hg (.inr (row_not h.wrt h.blk (fun c e => (by cases e)))), h.frm.kept hg (.inr (row_not h.frm h.blk (fun c e => (by cases e)))), h.cam.kept hg (.inr (row_not h.cam h.blk (fun c e => (by cases e)))), h.drp.kept hg (.inr (row_not h.drp h.blk (fun c e => (by cases e))))⟩, hg⟩
/-- A node that is silent, and gives its journal whole. -/
theorem nd_quiet {N B : Nat} {g : NdG} {s : St} {W : World} (n : Nd N B g s [] W) (v : Int) :
    ∃ g', Nd N B g' { s with sil := v, rep := true } [] ((W.setCell ⟨N, 4, none⟩ (.int .u64 v)).setCell ⟨B, 3, none⟩ (.bool true)) ∧ Up B (Ft N g s) (Ft N g' { s with sil := v, rep := true }) W ((W.setCell ⟨N, 4, none⟩ (.int .u64 v)).setCell ⟨B, 3, none⟩ (.bool true)) := by
  have e := n.nn.eq
  obtain ⟨n1, u1⟩ := n.cells (s' := { s with sil := v }) (n.nn.cr.nd.setSil v) (Fx.grown (grown_cellOf (grown_self W (some N)) 4 _) fun k h => by cases h; rfl) ⟨e.self, e.seq, rfl, e.lreq, e.ldat, e.tn, e.own, e.cnt, e.lk⟩ ⟨rfl, rfl, rfl, rfl, rfl, rfl⟩ ⟨rfl, rfl, rfl, rfl, rfl, rfl, rfl, rfl, rfl⟩ ⟨rfl, rfl, rfl, rfl, rfl⟩
  obtain ⟨a2, hg2⟩ := n1.ac.setReplace true
  obtain ⟨n2, u2⟩ := n1.act (s' := { s with sil := v, rep := true }) a2 (Fx.grown hg2 fun k h => by cases h; exact .inl rfl) ⟨rfl, rfl, rfl, rfl, rfl, rfl, rfl, rfl, rfl, rfl, rfl, rfl, rfl, rfl, rfl⟩ n1.now rfl
  exact ⟨_, n2, u1.trans u2⟩

set_option maxRecDepth 100000 in
set_option maxHeartbeats 4000000 in
theorem N_NewNode (me now : Int) (hU : U32 me) (hself : me ≠ 0) (v : Value) (xs : List Int) (w : World) (hv : RestV w v xs) (hx1 : xs.length ≤ 100000) (hjb : RBd (jl xs)) (hjl : (jl xs).length ≤ 50000) (hnow : 0 ≤ now ∧ now ≤ 4611686018427387904) :
    Calls Tryz.prog 19 #[.int .u32 me, v, .int .u64 now] w fun e w' => NewP (St.new me xs now) w e w' := by
  have hs0 : (me == 0) = false := by simpa using hself
  have hmm := @run_makeMap Tryz.prog
  have hb0 : Below w.heap.size w (w.alloc outZ) := (Below.refl _ _).alloc (Nat.le_refl _) _
  have hC0 : (w.alloc outZ).heap[w.heap.size]? = some outZ := heap_alloc_new _ _
  have hz0 : w.heap.size + 1 ≤ (w.alloc outZ).heap.size := by simp
  obtain ⟨av, cv, rfl⟩ : ∃ a c, v = .slice a xs.length c := by
    rcases hv.2 with ⟨rfl, rfl⟩ | ⟨b, o, c, rfl, _⟩
    · exact ⟨_, _, rfl⟩
    · exact ⟨_, _, rfl⟩
  have HR := (show Hid _ from fun W hW => ReadJournal_any (.slice av xs.length cv) xs (by omega) W (hv.kept hW))
  have hmid := hide (raw_mid (xs := xs) hU hjb hnow)
  obtain ⟨s9, hs9⟩ : ∃ z, St.raw me xs now = z := ⟨_, rfl⟩
  have hs9' := hide hs9
  rw [hs9] at hmid
  have hnew : St.new me xs now = s9.finish := by rw [← hs9]; rfl
  rw [hnew]
  obtain ⟨s', hs'⟩ : ∃ z, s9.finish = z := ⟨_, rfl⟩
  rw [hs']
  replace hs' := hide hs'
  clear hnew hs9
  have hcmpu := hide (cmpL_is hjb)
  dsimp only [outZ] at hb0 hC0 hz0
  clear hv
  go_enter Tryz.func19, Tryz.ntmps19
  go_upto_region 1 with (fail)
  generalize World.alloc _ _ = W1 at hb0 hC0 hz0 ⊢
  go_wp2_with fail
  refine Calls.mono (HR.out W1 hb0) ?_
  rintro e w2 ⟨u, rfl, hb2, hu⟩
  obtain ⟨au, cu, rfl, hH⟩ := row_form hu
  generalize hJ : (jl xs) = J at hjb hjl hH hu hcmpu
  have hJ' := hide hJ
  clear hJ HR
  have hbb2 := hb0.trans (hb2.mono hb0.size)
  have hC2 := (hb2.block _ (by omega : w.heap.size < W1.heap.size)).trans hC0
  have hz2 := hb2.size
  go_wp2_with fail
  refine Calls.mono (greatestOwn_any au J.length cu J rfl (by omega) hjb w2 hH) ?_
  rintro e w3 ⟨rfl, hb3⟩
  generalize hgo : (owL J).getD 0 = g0
  have hgo' := hide hgo
  clear hgo
  go_wp2_with fail
  refine Calls.mono (grown_any g0 w3) ?_
  rintro e w4 ⟨rfl, rfl⟩
  have hH3 := hH.below hb3
  have hbb3 := hbb2.trans (hb3.mono hbb2.size)
  have hC3 := (hb3.block _ (by omega : w.heap.size < w2.heap.size)).trans hC2
  have hz3 := hb3.size
  generalize hq : gr g0 = q
  have hq' := hide hq
  clear hq hC0 hC2 hH hu hbb2 hb0 hb2 hb3
  go_wp2_with fail
  refine Calls.mono (NewRoutes_any me au J.length cu J rfl hjl hjb w4 hH3) ?_
  rintro e w5 ⟨T, out, rfl, hcmp, ⟨M, ff, gg, hMT, hTS⟩, hb5⟩
  obtain rfl : out = cmpL J := hcmp.unique hcmpu.out
  go_wp2_with fail
  refine Calls.mono (newSeen_map w5) ?_
  rintro e w6 ⟨Ms, rfl, hb6, hSn, hMs⟩
  go_wp2_with fail
  refine Calls.mono (newDiary_map w6) ?_
  rintro e w7 ⟨Mo, rfl, hb7, hmo, hMo⟩
  have hM5 := hMT.map.lt
  have hM8 := MapP.made w7
  have hb8 : Below w7.heap.size w7 (w7.alloc (.map #[] 0)) := (Below.refl _ _).alloc (Nat.le_refl _) _
  have hz8 : (w7.alloc (.map #[] 0)).heap.size = w7.heap.size + 1 := by simp
  go_wp2_with fail
  generalize World.alloc _ _ = W8 at hM8 hb8 hz8 ⊢
  refine Calls.mono (NewTimers_any W8) ?_
  rintro e w9 ⟨rfl, hb9, hT9⟩
  have hz5 := hb5.size
  have hz6 := hb6.size
  have hz7 := hb7.size
  have hz9 := hb9.size
  have hb79 := hb8.trans (hb9.mono hb8.size)
  have hb69 := hb7.trans (hb79.mono hb7.size)
  have hb59 := hb6.trans (hb69.mono hb6.size)
  have hb49 := hb5.trans (hb59.mono hb5.size)
  have hMol := hmo.lt
  have hMsl := hSn.lt
  have hn := nn_laid (q := q) now (hMT.later' hb59) (hSn.block (hb69.block _ hSn.lt)) (hmo.block (hb79.block _ hmo.lt)) (hM8.block (hb9.block _ (by omega))) (hT9.lower (Nat.zero_le _)) (by omega) (by omega) (by omega) (by omega)
  have hbN : Below w9.heap.size w9 (w9.alloc (ndBox ⟨0, me, q, 0, T, Ms, 0, 0, Mo, 0, 0, 0, w7.heap.size, W8.heap.size + 1, .slice none 0 0⟩)) := (Below.refl _ _).alloc (Nat.le_refl _) _
  have hbNN : Below w9.heap.size w9 ((w9.alloc (ndBox ⟨0, me, q, 0, T, Ms, 0, 0, Mo, 0, 0, 0, w7.heap.size, W8.heap.size + 1, .slice none 0 0⟩)).alloc (acBox (acZ now))) := hbN.alloc hbN.size _
  have hz10 : ((w9.alloc (ndBox ⟨0, me, q, 0, T, Ms, 0, 0, Mo, 0, 0, 0, w7.heap.size, W8.heap.size + 1, .slice none 0 0⟩)).alloc (acBox (acZ now))).heap.size = w9.heap.size + 2 := by simp
  have hb4N := hb49.trans (hbNN.mono hb49.size)
  have hC10 := (hb4N.block _ (by omega : w.heap.size < w4.heap.size)).trans hC3
  have hbb10 := hbb3.trans (hb4N.mono hbb3.size)
  have hlow : ∀ k, Ft w9.heap.size ⟨⟨0, me, q, 0, T, Ms, 0, 0, Mo, 0, 0, 0, w7.heap.size, W8.heap.size + 1, .slice none 0 0⟩, acZ now, M, ff, gg, 0, fun _ => none, fun _ => .slice none 0 0, W8.heap.size, [], .slice none 0 0⟩ ⟨me, q, 0, 0, 0, nwL me (cmpL J), [], 0, fun _ => none, 0, 0, [], 0, [], now, [], [], [], [], false, 0⟩ k → w.heap.size < k := by
    rintro k ((rfl | rfl | hk) | (rfl | (rfl | ⟨z, hz, _⟩) | rfl | rfl | hk | hk))
    · omega
    · omega
    · have := (hTS k hk).1
      omega
    · omega
    · show _ < w7.heap.size
      omega
    · cases hz
    · show _ < W8.heap.size + 1
      omega
    · show _ < W8.heap.size
      omega
    · cases hk
    · cases hk
  have hNw : w.heap.size < w9.heap.size := by omega
  clear hb79 hb69 hb59 hb49 hbN hbNN hb4N hM8 hb8 hb9 hT9 hb5 hb6 hb7 hC3 hbb3 hMT hTS hSn hmo hH3 hcmp hcmpu
  dsimp only [ndBox, acBox, acZ] at hn hz10 hC10 hbb10 hlow
  clear hz8 hz9
  go_upto_region 6 with (fail)
  generalize World.alloc (World.alloc _ _) _ = W10 at hn hz10 hC10 hbb10 ⊢
  generalize w9.heap.size = N at hn hz10 hlow hNw ⊢
  obtain ⟨g, hg⟩ : ∃ z, (⟨⟨0, me, q, 0, T, Ms, 0, 0, Mo, 0, 0, 0, w7.heap.size, W8.heap.size + 1, .slice none 0 0⟩, ⟨now, .slice none 0 0, ⟨#[]⟩, false, .slice none 0 0, .slice none 0 0, .slice none 0 0⟩, M, ff, gg, 0, fun _ => none, fun _ => .slice none 0 0, W8.heap.size, [], .slice none 0 0⟩ : NdG) = z := ⟨_, rfl⟩
  rw [hg] at hn hlow
  clear hg hz0 hz2 hz3 hz5 hz6 hz7 hMol hMsl hM5 hMo hMs
  generalize w7.heap.size = n7
  have hend : Hid (∀ (g : NdG) (W : World), Nd N (N + 1) g s9 [] W → Below w.heap.size w W → W.heap[w.heap.size]? = some (.cells #[.string ⟨#[]⟩, .bool false, .slice none 0 0, .slice none 0 0, .slice none 0 0] 52) → (∀ k, Ft N g s9 k → w.heap.size < k) →
      Calls Tryz.prog 48 #[.pointer (some ⟨N, 0, none⟩), .pointer (some ⟨N + 1, 0, none⟩)] W fun e w6 => ∃ af kf ac kc ad kd, e = .returned (.agg #[.string s9.finish.jrn, .bool s9.finish.rep, .slice af s9.finish.frs.length kf, .slice ac s9.finish.cms.length kc, .slice ad s9.finish.drs.length kd]) ∧ w6.heap[w.heap.size]? = some (.cells #[.string ⟨#[]⟩, .bool false, .slice none 0 0, .slice none 0 0, .slice none 0 0] 52) ∧
        ∀ W7, w6.grownBy W7 (some w.heap.size) → ∃ g, Nn N g s9.finish [] W7 ∧ W7.ownsRow w.heap.size 77 2 (.slice af s9.finish.frs.length kf) s9.finish.frs.length (FrC s9.finish.frs) ∧ W7.ownsRow w.heap.size 56 2 (.slice ac s9.finish.cms.length kc) s9.finish.cms.length (FrC s9.finish.cms) ∧ W7.ownsRow w.heap.size 195 1 (.slice ad s9.finish.drs.length kd) s9.finish.drs.length (DrC s9.finish.drs) ∧ Below w.heap.size w W7 ∧ ∀ k, Ft N g s9.finish k → w.heap.size ≤ k) := by
    intro g W n hb hC hl
    have hm := hmid.out
    refine (N_finish n hm.dom (by have := hm.cnt; omega) (by have := hm.nws; omega) hm.bd hm.seq).mono ?_
    rintro e w6 ⟨g6, rfl, n6, u6, _⟩
    obtain ⟨af, kf, hf, _⟩ := row_form n6.ac.frm
    obtain ⟨ac, kc, hc, _⟩ := row_form n6.ac.cam
    obtain ⟨ad, kd, hd, _⟩ := row_form n6.ac.drp
    have hlw : w.heap.size < W.heap.size := some_lt hC
    have hC6 := (u6.block w.heap.size _ hC (fun h => by have := hl _ h; omega) (.inr (by omega)))
    have hl6 : ∀ k, Ft N g6 s9.finish k → w.heap.size < k := fun k hk => by
      rcases u6.sub k hk with h | h
      · exact hl k h
      · omega
    have r1 := ownsRow_base_a n6.ac.frm (show w.heap.size ≤ N + 1 + 1 by omega)
    have r2 := ownsRow_base_a n6.ac.cam (show w.heap.size ≤ N + 1 + 1 by omega)
    have r3 := ownsRow_base_a n6.ac.drp (show w.heap.size ≤ N + 1 + 1 by omega)
    rw [hf] at r1
    rw [hc] at r2
    rw [hd] at r3
    refine ⟨af, kf, ac, kc, ad, kd, by rw [hf, hc, hd]; rfl, hC6, fun W7 hg => ⟨g6, n6.nn.kept fun k hk => hg.block k (n6.nn.lt hk) (fun e => by cases e; have := hl6 _ hk; omega), r1.kept hg (.inr (row_not r1 hC6 (fun c e => (by cases e)))), r2.kept hg (.inr (row_not r2 hC6 (fun c e => (by cases e)))), r3.kept hg (.inr (row_not r3 hC6 (fun c e => (by cases e)))), ?_, fun k hk => by have := hl6 k hk; omega⟩⟩
    have hB6 : Below w.heap.size w w6 := ⟨u6.os.trans hb.os, u6.tape.trans hb.tape, u6.output.trans hb.output, Nat.le_trans hb.size u6.size, fun k hk => by
      obtain ⟨o, ho⟩ : ∃ o, W.heap[k]? = some o := ⟨_, Array.getElem?_eq_getElem (by have := hb.size; omega)⟩
      rw [u6.block k o ho (fun h => by have := hl _ h; omega) (.inr (by omega)), ← ho]
      exact hb.block k hk⟩
    exact hB6.grown hg hB6.size (fun k e => by cases e; exact Nat.le_refl _)
  by_cases hx : xs = []
  · have hs : (⟨me, q, 0, 0, 0, nwL me (cmpL J), [], 0, fun _ => none, 0, 0, [], 0, [], now, [], [], [], [], false, 0⟩ : St) = s9 := by
      rw [← hs9'.out, ← hq'.out, ← hgo'.out, ← hJ'.out]
      unfold St.raw
      rw [if_pos hx, decide_eq_false (fun h => h hx)]
    rw [hs] at hn hlow
    have hlen : xs.length = 0 := by rw [hx]; rfl
    have HF := hide (hend.out g W10 hn hbb10 hC10 hlow)
    clear hend hn hlow hbb10 hC10 hs
    rw [hlen]
    go_wp2_with fail
    refine Calls.mono HF.out ?_
    rintro e w6 ⟨af, kf, ac, kc, ad, kd, rfl, hC6, HE⟩
    rw [hs'.out] at HE ⊢
    replace HE := hide HE
    clear hs' HF
    have z0 : w6.cell? ⟨w.heap.size, 0, none⟩ = some (.string ⟨#[]⟩) := cell_of_row _ _ 0 _ _ _ hC6
    have z1 : w6.cell? ⟨w.heap.size, 1, none⟩ = some (.bool false) := cell_of_row _ _ 1 _ _ _ hC6
    have z2 : w6.cell? ⟨w.heap.size, 2, none⟩ = some (.slice none 0 0) := cell_of_row _ _ 2 _ _ _ hC6
    have z3 : w6.cell? ⟨w.heap.size, 3, none⟩ = some (.slice none 0 0) := cell_of_row _ _ 3 _ _ _ hC6
    have z4 : w6.cell? ⟨w.heap.size, 4, none⟩ = some (.slice none 0 0) := cell_of_row _ _ 4 _ _ _ hC6
    have y0 := frozen_of_row w6 w.heap.size 0 _ _ hC6
    have y1 := frozen_of_row w6 w.heap.size 1 _ _ hC6
    have y2 := frozen_of_row w6 w.heap.size 2 _ _ hC6
    have y3 := frozen_of_row w6 w.heap.size 3 _ _ hC6
    have y4 := frozen_of_row w6 w.heap.size 4 _ _ hC6
    generalize hjj : s'.jrn = jj
    replace hjj := hide hjj
    have hgC := grown_cellOf (grown_cellOf (grown_cellOf (grown_cellOf (grown_cellOf (grown_self w6 (some w.heap.size)) 0 (.string jj)) 1 (.bool s'.rep)) 2 (.slice af s'.frs.length kf)) 3 (.slice ac s'.cms.length kc)) 4 (.slice ad s'.drs.length kd)
    have hC7 : (((((w6.setCell ⟨w.heap.size, 0, none⟩ (.string jj)).setCell ⟨w.heap.size, 1, none⟩ (.bool s'.rep)).setCell ⟨w.heap.size, 2, none⟩ (.slice af s'.frs.length kf)).setCell ⟨w.heap.size, 3, none⟩ (.slice ac s'.cms.length kc)).setCell ⟨w.heap.size, 4, none⟩ (.slice ad s'.drs.length kd)).heap[w.heap.size]? = some (.cells #[.string jj, .bool s'.rep, .slice af s'.frs.length kf, .slice ac s'.cms.length kc, .slice ad s'.drs.length kd] 52) := by
      simp [World.setCell, Array.getElem?_modify, hC6]
    have HE7 := hide (HE.out _ hgC)
    clear hgC HE
    go_wp2
    generalize World.setCell _ _ _ = W7 at hC7 HE7 ⊢
    have p0 : W7.cell? ⟨w.heap.size, 0, none⟩ = some (.string jj) := cell_of_row _ _ 0 _ _ _ hC7
    have p1 : W7.cell? ⟨w.heap.size, 1, none⟩ = some (.bool s'.rep) := cell_of_row _ _ 1 _ _ _ hC7
    have p2 : W7.cell? ⟨w.heap.size, 2, none⟩ = some (.slice af s'.frs.length kf) := cell_of_row _ _ 2 _ _ _ hC7
    have p3 : W7.cell? ⟨w.heap.size, 3, none⟩ = some (.slice ac s'.cms.length kc) := cell_of_row _ _ 3 _ _ _ hC7
    have p4 : W7.cell? ⟨w.heap.size, 4, none⟩ = some (.slice ad s'.drs.length kd) := cell_of_row _ _ 4 _ _ _ hC7
    obtain ⟨gE, e1, e2, e3, e4, e5, e6⟩ := HE7.out
    exact bodyPost_ret (v := .tuple #[.pointer (some ⟨N, 0, none⟩), .agg #[.string jj, .bool s'.rep, .slice af s'.frs.length kf, .slice ac s'.cms.length kc, .slice ad s'.drs.length kd], .int .i64 0]) (by simp [results, Tryz.results19, go_sem, p0, p1, p2, p3, p4]) rfl ⟨N, gE, .slice af s'.frs.length kf, .slice ac s'.cms.length kc, .slice ad s'.drs.length kd, by rw [← hjj.out]; rfl, e1, e2, e3, e4, e5, e6⟩
  · have hs : ({ (⟨me, q, 0, 0, 0, nwL me (cmpL J), [], 0, fun _ => none, 0, 0, [], 0, [], now, [], [], [], [], false, 0⟩ : St) with sil := now + 2000, rep := true } : St) = s9 := by
      rw [← hs9'.out, ← hq'.out, ← hgo'.out, ← hJ'.out]
      unfold St.raw
      rw [if_neg hx, decide_eq_true hx]
    have hlen : (0 : Int) < (xs.length : Int) := by
      cases xs with
      | nil => exact absurd rfl hx
      | cons a l => simp only [List.length_cons]; omega
    obtain ⟨g2, n2, u2⟩ := nd_quiet hn (now + 2000)
    rw [hs] at n2 u2
    have c4 := hn.nn.cr.nd.cell.2.2.2.1
    have f4 := hn.nn.cr.nd.free 4
    have c5 := hn.ac.blk.cell.2.2.2.1
    have f5 := hn.ac.blk.free 3
    have hC2 := u2.block w.heap.size _ hC10 (fun h => by have := hlow _ h; omega) (.inr (by omega))
    have hB2 : Below w.heap.size w ((W10.setCell ⟨N, 4, none⟩ (.int .u64 (now + 2000))).setCell ⟨N + 1, 3, none⟩ (.bool true)) := ⟨u2.os.trans hbb10.os, u2.tape.trans hbb10.tape, u2.output.trans hbb10.output, Nat.le_trans hbb10.size u2.size, fun k hk => by
      obtain ⟨o, ho⟩ : ∃ o, W10.heap[k]? = some o := ⟨_, Array.getElem?_eq_getElem (by omega)⟩
      rw [u2.block k o ho (fun h => by have := hlow _ h; omega) (.inr (by omega)), ← ho]
      exact hbb10.block k hk⟩
    have HF := hide (hend.out g2 _ n2 hB2 hC2 (fun k hk => (u2.sub k hk).elim (hlow k) (by omega)))
    clear hend hn hlow hbb10 hC10 hs n2 u2 hC2 hB2
    go_wp2_with fail
    refine Calls.mono HF.out ?_
    rintro e w6 ⟨af, kf, ac, kc, ad, kd, rfl, hC6, HE⟩
    rw [hs'.out] at HE ⊢
    replace HE := hide HE
    clear hs' HF
    have z0 : w6.cell? ⟨w.heap.size, 0, none⟩ = some (.string ⟨#[]⟩) := cell_of_row _ _ 0 _ _ _ hC6
    have z1 : w6.cell? ⟨w.heap.size, 1, none⟩ = some (.bool false) := cell_of_row _ _ 1 _ _ _ hC6
    have z2 : w6.cell? ⟨w.heap.size, 2, none⟩ = some (.slice none 0 0) := cell_of_row _ _ 2 _ _ _ hC6
    have z3 : w6.cell? ⟨w.heap.size, 3, none⟩ = some (.slice none 0 0) := cell_of_row _ _ 3 _ _ _ hC6
    have z4 : w6.cell? ⟨w.heap.size, 4, none⟩ = some (.slice none 0 0) := cell_of_row _ _ 4 _ _ _ hC6
    have y0 := frozen_of_row w6 w.heap.size 0 _ _ hC6
    have y1 := frozen_of_row w6 w.heap.size 1 _ _ hC6
    have y2 := frozen_of_row w6 w.heap.size 2 _ _ hC6
    have y3 := frozen_of_row w6 w.heap.size 3 _ _ hC6
    have y4 := frozen_of_row w6 w.heap.size 4 _ _ hC6
    generalize hjj : s'.jrn = jj
    replace hjj := hide hjj
    have hgC := grown_cellOf (grown_cellOf (grown_cellOf (grown_cellOf (grown_cellOf (grown_self w6 (some w.heap.size)) 0 (.string jj)) 1 (.bool s'.rep)) 2 (.slice af s'.frs.length kf)) 3 (.slice ac s'.cms.length kc)) 4 (.slice ad s'.drs.length kd)
    have hC7 : (((((w6.setCell ⟨w.heap.size, 0, none⟩ (.string jj)).setCell ⟨w.heap.size, 1, none⟩ (.bool s'.rep)).setCell ⟨w.heap.size, 2, none⟩ (.slice af s'.frs.length kf)).setCell ⟨w.heap.size, 3, none⟩ (.slice ac s'.cms.length kc)).setCell ⟨w.heap.size, 4, none⟩ (.slice ad s'.drs.length kd)).heap[w.heap.size]? = some (.cells #[.string jj, .bool s'.rep, .slice af s'.frs.length kf, .slice ac s'.cms.length kc, .slice ad s'.drs.length kd] 52) := by
      simp [World.setCell, Array.getElem?_modify, hC6]
    have HE7 := hide (HE.out _ hgC)
    clear hgC HE
    go_wp2
    generalize World.setCell _ _ _ = W7 at hC7 HE7 ⊢
    have p0 : W7.cell? ⟨w.heap.size, 0, none⟩ = some (.string jj) := cell_of_row _ _ 0 _ _ _ hC7
    have p1 : W7.cell? ⟨w.heap.size, 1, none⟩ = some (.bool s'.rep) := cell_of_row _ _ 1 _ _ _ hC7
    have p2 : W7.cell? ⟨w.heap.size, 2, none⟩ = some (.slice af s'.frs.length kf) := cell_of_row _ _ 2 _ _ _ hC7
    have p3 : W7.cell? ⟨w.heap.size, 3, none⟩ = some (.slice ac s'.cms.length kc) := cell_of_row _ _ 3 _ _ _ hC7
    have p4 : W7.cell? ⟨w.heap.size, 4, none⟩ = some (.slice ad s'.drs.length kd) := cell_of_row _ _ 4 _ _ _ hC7
    obtain ⟨gE, e1, e2, e3, e4, e5, e6⟩ := HE7.out
    exact bodyPost_ret (v := .tuple #[.pointer (some ⟨N, 0, none⟩), .agg #[.string jj, .bool s'.rep, .slice af s'.frs.length kf, .slice ac s'.cms.length kc, .slice ad s'.drs.length kd], .int .i64 0]) (by simp [results, Tryz.results19, go_sem, p0, p1, p2, p3, p4]) rfl ⟨N, gE, .slice af s'.frs.length kf, .slice ac s'.cms.length kc, .slice ad s'.drs.length kd, by rw [← hjj.out]; rfl, e1, e2, e3, e4, e5, e6⟩
end Go.Proofs.YtakaadcpaeiccabGreat

namespace Go.Proofs.YtakaadcpaeiccabGreat
open Go.RowKit

theorem pkOf_wf {x0 x1 x2 x4 : Int} {r : List Int} (hb : ∀ x ∈ r, 0 ≤ x ∧ x ≤ 255) (h0 : 0 ≤ x0 ∧ x0 ≤ 255) (h1 : 0 ≤ x1 ∧ x1 ≤ 255) (h4 : 0 ≤ x4 ∧ x4 ≤ 255) : (pkOf x0 x1 x2 x4 r).Wf := by
  have hn := fun i => num_b hb i
  have q0 := hn 0
  have q1 := hn 1
  have q2 := hn 2
  have q3 := hn 3
  have q4 := hn 4
  have hz : (⟨#[]⟩ : ByteArray).size = 0 := rfl
  unfold pkOf
  split
  · constructor <;> (dsimp only; omega)
  split
  · constructor <;> (dsimp only; omega)
  split
  · constructor <;> (dsimp only; omega)
  split
  · have : (strOfNums ((r.drop 12).take x4.toNat)).size ≤ 255 := by
      rw [strOfNums_size, List.length_take]; omega
    constructor <;> (dsimp only; omega)
  · constructor <;> (dsimp only; omega)

theorem Reads.back {xs : List Int} {v : Value} {W : World} {N : Nat} (hb : ∀ x ∈ xs, 0 ≤ x ∧ x ≤ 255) (hF : isF xs = true) (h : Reads xs v W N) :
    ∃ (q : Pkt) (L : List (Int × Int)), v = q.val ∧ q.Wf ∧ q.goodB = true ∧ HoldsL W q L ∧ encB q L = xs ∧ (∀ b, q.la = some b → N ≤ b.block) := by
  obtain ⟨x0, x1, x2, x3, x4, r, ao, c, rfl, hv, hl, hA, hf⟩ := h
  have hw : (pkOf x0 x1 x2 x4 r).Wf := pkOf_wf (fun x hx => hb x (by simp [hx])) (hb x0 (by simp)) (hb x1 (by simp)) (hb x4 (by simp))
  have hgood : (pkOf x0 x1 x2 x4 r).goodB = true := by
    simp only [isF, Bool.and_eq_true] at hF
    exact hF.2
  refine ⟨{ pkOf x0 x1 x2 x4 r with la := ao, lc := c }, lsOf x1 x4 r, hv, ⟨hw.ttl0, hw.ttl1, hw.kind0, hw.kind1, hw.hops0, hw.hops1, hw.id0, hw.id1, hw.dest0, hw.dest1, hw.dseq0, hw.dseq1, hw.frm0, hw.frm1, hw.fseq0, hw.fseq1, hw.life0, hw.life1, hw.ln1, hw.pay1⟩, (goodB_la _ _ _).trans hgood, ⟨hl, hA⟩, ?_, hf⟩
  rw [cnt_flag, enc_pkOf hb hF]
end Go.Proofs.YtakaadcpaeiccabGreat

namespace Go.Proofs.YtakaadcpaeiccabGreat

/-! What is read of a request's frame; the first request. -/
/-- Each search has a timer. -/
def St.Pos (s : St) : Prop := ∀ q ∈ s.Q, 0 < q.id
theorem pos_ask {s : St} {q : Sr} (h : ∀ z ∈ s.Q, z.dest ≠ q.dest → 0 < z.id) (ht : 0 ≤ s.tl) : (s.ask q).Pos ∧ 0 ≤ (s.ask q).tl := by
  obtain ⟨o, h1, h2⟩ := ask_Q s q
  refine ⟨fun z hz => ?_, by omega⟩
  rw [h1] at hz
  rcases setQ_mem hz with rfl | ⟨k1, k2⟩
  · dsimp only
    omega
  · exact h z k1 k2
theorem sendAll_Q (s : St) (d : Int) : (∀ z ∈ (s.sendAll d).Q, z ∈ s.Q) ∧ (s.sendAll d).tl = s.tl := by
  have ht : ∀ (l : List ByteArray) (s : St), (l.foldl (fun s t => s.sendText d t) s).tl = s.tl := by
    intro l
    induction l with
    | nil => intro s; rfl
    | cons a l ih =>
      intro s
      rw [List.foldl_cons, ih]
      unfold St.sendText
      split <;> rfl
  unfold St.sendAll
  split
  · exact ⟨fun _ h => h, rfl⟩
  · split
    · exact ⟨fun z hz => (List.mem_filter.1 hz).1, ht _ _⟩
    · exact ⟨fun _ h => h, rfl⟩
theorem pos_step {s : St} (h : s.Pos) (ht : 0 ≤ s.tl) (q : Sr) : (s.step q).Pos ∧ 0 ≤ (s.step q).tl := by
  unfold St.step
  split
  · obtain ⟨h1, h2⟩ := sendAll_Q s q.dest
    exact ⟨fun z hz => h z (h1 z hz), by omega⟩
  · split
    · unfold St.widen
      split
      · exact pos_ask (fun z hz _ => h z hz) ht
      · split
        · exact pos_ask (fun z hz _ => h z hz) ht
        · split
          · exact pos_ask (fun z hz _ => h z hz) ht
          · exact ⟨fun z hz => h z (List.mem_filter.1 hz).1, ht⟩
    · exact pos_ask (fun z hz _ => h z hz) ht
theorem pos_tck {s : St} (h : s.Pos) (ht : 0 ≤ s.tl) (now : Int) : (s.tck now).Pos := by
  have key : ∀ (D : List Sr) (z : St), z.Pos → 0 ≤ z.tl → (D.foldl St.step z).Pos := by
    intro D
    induction D with
    | nil => intro z h _; exact h
    | cons q D ih =>
      intro z hz htz
      rw [List.foldl_cons]
      obtain ⟨h1, h2⟩ := pos_step hz htz q
      exact ih _ h1 h2
  have h1 := key (St.dueQ s.Q now) (s.locked.begin now) h ht
  intro q hq
  refine h1 q ?_
  have e := (finish_same ((St.dueQ s.Q now).foldl St.step (s.locked.begin now))).Q
  rw [← e]
  exact hq
theorem pos_snd {s : St} (h : s.Pos) (ht : 0 ≤ s.tl) (now d : Int) (t : ByteArray) : (s.snd now d t).Pos := by
  have e := (finish_same (if (findL (s.locked.begin now).A d (s.locked.begin now).now).2 then (s.locked.begin now).sendText d t else (s.locked.begin now).await d t)).Q
  intro q hq
  have hq' : q ∈ (if (findL (s.locked.begin now).A d (s.locked.begin now).now).2 then (s.locked.begin now).sendText d t else (s.locked.begin now).await d t).Q := by
    rw [← e]
    exact hq
  split at hq'
  · rw [(sendText_same _ _ _).1] at hq'
    exact h q hq'
  · unfold St.await at hq'
    split at hq'
    · rename_i q0 hs
      have hm := (srOf_some hs).1
      have : ∀ q' : Sr, q'.id = q0.id → ∀ z ∈ St.setQ s.Q q', 0 < z.id := fun q' e z hz => by
        rcases setQ_mem hz with rfl | ⟨k1, _⟩
        · rw [e]; exact h q0 hm
        · exact h z k1
      unfold St.hold at hq'
      split at hq'
      · exact this { q0 with txt := q0.txt.tail ++ [t] } rfl q hq'
      · exact this { q0 with txt := q0.txt ++ [t] } rfl q hq'
    · refine (pos_ask (s := { s.locked.begin now with Q := (s.locked.begin now).Q ++ [St.newQ d t] }) (q := St.newQ d t) (fun z hz hne => ?_) ht).1 q hq'
      rcases List.mem_append.1 hz with k | k
      · exact h z k
      · rw [List.mem_singleton] at k
        rw [k] at hne
        exact absurd rfl hne
end Go.Proofs.YtakaadcpaeiccabGreat
