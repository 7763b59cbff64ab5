import Derived.Test.YtpdjhcfkhblioaaY1
import Derived.Test.YtpdjhcfkhblioaaF14
import Derived.Deep.QuietTactic
import Derived.BigQuiet
import Derived.Deep.CutBlock
namespace Go.Proofs.Ytpdjhcfkhblioaa
open Go.RowKit Go.Maps

/-- A step with a table: what is done, Dest, Seq, Hops, Next, At. -/
abbrev Stp := Int × Int × Int × Int × Int × Int
def stC (x : Stp) : List Value := [.int .i64 x.1, .int .u32 x.2.1, .int .u32 x.2.2.1, .int .i64 x.2.2.2.1, .int .u32 x.2.2.2.2.1, .int .u64 x.2.2.2.2.2]
def StL (L : List Stp) : List Value := L.flatMap stC
def StOk (x : Stp) : Prop := I64 x.1 ∧ U32 x.2.1 ∧ U32 x.2.2.1 ∧ I64 x.2.2.2.1 ∧ U32 x.2.2.2.2.1 ∧ U64 x.2.2.2.2.2
@[reducible] def stBox (o d s h n a : Int) : Obj := .cells #[.int .i64 o, .int .u32 d, .int .u32 s, .int .i64 h, .int .u32 n, .int .u64 a] 75
def StB (b : Nat) (o d s h n a : Int) (W : World) : Prop := W.heap[b]? = some (stBox o d s h n a)
theorem StB.cell {b : Nat} {o d s h n a : Int} {W : World} (k : StB b o d s h n a W) : W.cell? ⟨b, 0, none⟩ = some (.int .i64 o) ∧ W.cell? ⟨b, 1, none⟩ = some (.int .u32 d) ∧ W.cell? ⟨b, 2, none⟩ = some (.int .u32 s) ∧ W.cell? ⟨b, 3, none⟩ = some (.int .i64 h) ∧ W.cell? ⟨b, 4, none⟩ = some (.int .u32 n) ∧ W.cell? ⟨b, 5, none⟩ = some (.int .u64 a) :=
  ⟨cell_of_row W b 0 _ _ _ k, cell_of_row W b 1 _ _ _ k, cell_of_row W b 2 _ _ _ k, cell_of_row W b 3 _ _ _ k, cell_of_row W b 4 _ _ _ k, cell_of_row W b 5 _ _ _ k⟩
theorem LsR.low {base base' : Nat} {v : Value} {L : List (Rt × Value)} {W : World} (h : LsR base v L W) (hb : base' ≤ base) : LsR base' v L W := ⟨ownsRow_base_a h.row hb, fun p hp => ownsRow_base_a (h.bef p hp) hb⟩
theorem StB.later {b : Nat} {o d s h n a : Int} {W W' : World} (k : StB b o d s h n a W) (hb : Below W.heap.size W W') : StB b o d s h n a W' :=
  (hb.block b (World.block_lt_of_cell? W _ (k.cell).1)).trans k
theorem RdQ.len8 {me : Int} {T1 T2 : Nat} {w W : World} {X : Nat → Prop} {A B : List Rt} (h : RdQ me T1 T2 w X A B W) : B.length ≤ 8 := by
  obtain ⟨v2, L2, hm, hl, _⟩ := h.cells
  rw [← hm]
  simpa using hl
/-- Both lists, told at the end of a round. -/
theorem RdQ.lists {me : Int} {T1 T2 : Nat} {w W : World} {X : Nat → Prop} {A : List Rt} (h : RdQ me T1 T2 w X A A W) : ∃ s2 n2 c2, W.cell? ⟨T2, 1, none⟩ = some (.slice s2 n2 c2) ∧
    Hid (∀ W', Below W.heap.size W W' → Calls Try.prog 50 #[.pointer (some ⟨T1, 0, none⟩)] W' fun e w' => ∃ a n c, e = .returned (.slice a n c) ∧ (∃ L, L.map (·.1) = A ∧ LsR W.heap.size (.slice a n c) L w') ∧ Below W.heap.size W w') ∧
    Hid (∀ W' v, Below W.heap.size W W' → (∃ L, L.map (·.1) = A ∧ LsR W.heap.size v L W') → Calls Try.prog 49 #[v, .slice s2 n2 c2] W' fun e w' => e = .returned (.bool true) ∧ Below W.heap.size W w') := by
  obtain ⟨v2, L2, hm2, hl8, hb4, hc, hls⟩ := h.cells
  obtain ⟨s2, c2, rfl, _⟩ := hls.slice
  refine ⟨s2, L2.length, c2, hc, ?_, ?_⟩
  · intro W' hb
    refine (h.later hb).list.out.mono ?_
    rintro e w' ⟨v, L, rfl, h1, h2, h3⟩
    obtain ⟨a, c, rfl, _⟩ := h2.slice
    exact ⟨a, L.length, c, rfl, ⟨L, h1, h2.low hb.size⟩, hb.trans (h3.mono hb.size)⟩
  · intro W' v hb hL
    obtain ⟨L, h1, h2⟩ := hL
    refine (lines_same v (.slice s2 L2.length c2) L L2 (h1.trans hm2.symm) (fun p hp => ?_) (by
      have := congrArg List.length (h1.trans hm2.symm)
      simp at this
      omega) W' h2 (hls.later hb) hb.size).mono ?_
    · have hx : p.1 ∈ L2.map (·.1) := by
        rw [hm2, ← h1]
        exact List.mem_map.2 ⟨p, hp, rfl⟩
      obtain ⟨p2, hp2, he⟩ := List.mem_map.1 hx
      rw [← he]
      exact hb4 p2 hp2
    · rintro e w' ⟨rfl, h3⟩
      exact ⟨rfl, hb.trans h3⟩
theorem RdQ.start {me : Int} {T1 T2 : Nat} {w w0 w1 w2 : World} {A : List Rt} (hb0 : Below w.heap.size w w0) (h1 : Tab me T1 (fun k => w0.heap.size ≤ k ∧ k < w1.heap.size) A w1) (hb1 : Below w0.heap.size w0 w1) (h2 : RTab me T2 (fun k => w1.heap.size ≤ k ∧ k < w2.heap.size) A w2) (hb2 : Below w1.heap.size w1 w2) : RdQ me T1 T2 w (fun _ => False) A A w2 := by
  have s0 := hb0.size
  have s1 := hb1.size
  have s2 := hb2.size
  exact ⟨_, _, h1.later hb2, h2, fun q hq => ⟨Nat.le_trans s0 hq.1, Nat.lt_of_lt_of_le hq.2 s2⟩, fun q hq => ⟨Nat.le_trans s0 (Nat.le_trans s1 hq.1), hq.2⟩, fun q h1 h2 => by omega, fun _ h => h.elim, (hb0.trans (hb1.mono s0)).trans (hb2.mono (Nat.le_trans s0 s1))⟩

set_option maxRecDepth 100000 in
set_option maxHeartbeats 8000000 in
theorem Routed_short (me : Int) (hme : U32 me) (ao : Option Addr) (n c : Nat) (L : List (Bool × Int × Int)) (hL : L.length = n) (hn : n ≤ 4096) (hbd : RBd L) (so : Option Addr) (m cc : Nat) (K : List Stp) (hK : K.length = m) (hm : m ≤ 4096) (hok : ∀ x ∈ K, StOk x) (w : World) (hA : HoldsC w ao (RC L)) (hC : HoldsC w so (StL K)) :
    Calls Try.prog 7 #[.int .u32 me, .slice ao n c, .slice so m cc] w fun e w' => e = .returned (.bool true) ∧ Below w.heap.size w w' := by
  obtain ⟨i0, hi, hz0, hz1, hz2⟩ := info_parts info_rec
  have e0 : decide (4096 < (n : Int)) = false := decide_eq_false (by omega)
  have e1 : decide (4096 < (m : Int)) = false := decide_eq_false (by omega)
  have e0n : decide (4096 < n) = false := decide_eq_false (by omega)
  have e1n : decide (4096 < m) = false := decide_eq_false (by omega)
  have hbe : Below w.heap.size w (w.alloc (.cells #[] 41)) := (Below.refl _ _).alloc (Nat.le_refl _) _
  have hoe : (w.alloc (.cells #[] 41)).ownsRow w.heap.size 41 3 (.slice (some ⟨w.heap.size, 0, none⟩) 0 0) 0 [] :=
    ⟨rfl, .inr ⟨w.heap.size, 0, _, rfl, Nat.le_refl _, heap_alloc_new w _, Nat.le_refl _, by decide, rfl, rfl⟩⟩
  have hsrc : Src Try.prog 3 42 (.slice ao n c) n (RC L) (w.alloc (.cells #[] 41)) :=
    (hA.below hbe).src Try.underlying42 c (by rw [RC_length, hL]) (by decide) (RC_oneCell L)
  have hne : w.heap.size ≤ (w.alloc (.cells #[] 41)).heap.size := by simp
  go_enter Try.func7, Try.ntmps7
  go_wp2_with (at_builtin; refine wpList_append_own_src _ rfl _ _ 42 42 rfl w.heap.size 41 i0 (.agg #[.bool false, .int .u32 0, .int .u32 0]) 3 12 Try.underlying42 hi hz0 hz1 hz2 rfl (.slice (some ⟨w.heap.size, 0, none⟩) 0 0) 0 [] rfl hoe (by simp) (.slice ao n c) n (RC L) rfl hsrc ?c1 ?c2 hne ?_)
  case c1 => unfold maxLen; omega
  case c2 => omega
  intro v7 W7 ho7 hg7 _
  have hb7 : Below w.heap.size w W7 := hbe.grown hg7 hne (fun k hk => (hoe.lt k hk).1)
  clear hbe hoe hsrc hne hg7
  obtain ⟨ao7, c7', rfl, hH7⟩ := row_form ho7
  clear ho7
  go_wp2_with fail
  refine (NewRoutes_any me ao7 n c7' L hL (by omega) hbd _ hH7).mono ?_
  rintro e w1 ⟨T1, out, rfl, hc1, hT1, hb1⟩
  clear hH7
  have hA1 := hA.below (hb7.trans (hb1.mono hb7.size))
  go_wp2_with fail
  refine (rNewRoutes_any me hme ao n c L hL (by omega) hbd _ hA1).mono ?_
  rintro e w2 ⟨T2, out2, rfl, hc2, hT2, hb2⟩
  obtain rfl := hc1.unique hc2
  have hq0 := RdQ.start hb7 hT1 hb1 hT2 hb2
  clear hA1 hc1 hc2 hT1 hT2 hb1 hb2 hb7 hi hz0 hz1 hz2 e0 e1 e0n e1n
  generalize nwL me out = A0 at hq0
  go_wp2_with fail
  go_loopw [9] (fun i wr => ∃ (k : Nat) (A : List Rt), k ≤ m ∧ i = .int .i64 k ∧ RdQ me T1 T2 w (fun _ => False) A A wr) (fun i _ => m - (intOf i).toNat)
  case atStart => exact ⟨0, A0, Nat.zero_le _, rfl, hq0⟩
  case round =>
    clear hq0 hA hbd hL hn
    obtain ⟨k, A, hk, rfl, hq⟩ := hrel
    by_cases hlt : k < m
    · have hki : (k : Int) < (m : Int) := by omega
      have hkL : k < K.length := by omega
      have hx := hok _ (List.getElem_mem hkL)
      have hCw := hC.below hq.below
      have hat : ∀ i z, i < 6 → (stC K[k])[i]? = some z → (StL K)[k * 6 + i]? = some z := fun i z hi hz => (flat_at stC 6 (by decide) (fun _ => rfl) K k i hi (List.getElem?_eq_getElem hkL)).trans hz
      obtain ⟨b, o, rfl, hjunk⟩ := hCw (k * 6 + 0) _ (hat 0 _ (by decide) rfl)
      clear hjunk
      have c0 := hCw.one rfl (hat 0 _ (by decide) rfl)
      have c1 := hCw.one rfl (hat 1 _ (by decide) rfl)
      have c2 := hCw.one rfl (hat 2 _ (by decide) rfl)
      have c3 := hCw.one rfl (hat 3 _ (by decide) rfl)
      have c4 := hCw.one rfl (hat 4 _ (by decide) rfl)
      have c5 := hCw.one rfl (hat 5 _ (by decide) rfl)
      clear hCw hat
      generalize K[k] = x at hx c0 c1 c2 c3 c4 c5
      obtain ⟨xo, xd, xs, xh, xn, xa⟩ := x
      obtain ⟨hxo, hxd, hxs, hxh, hxn, hxa⟩ := hx
      dsimp only at hxo hxd hxs hxh hxn hxa c0 c1 c2 c3 c4 c5
      rw [Nat.add_zero] at c0
      rw [← Nat.add_assoc] at c1 c2 c3 c4 c5
      have hb0 : Below wr.heap.size wr (wr.alloc (stBox xo xd xs xh xn xa)) := (Below.refl _ _).alloc (Nat.le_refl _) _
      have hq1 : RdQ me T1 T2 w (fun q => q = wr.heap.size) A A (wr.alloc (stBox xo xd xs xh xn xa)) := (hq.fresh hb0).lets (fun q hq => .inr (by subst hq; rw [World.size_alloc]; omega))
      have hS : StB wr.heap.size xo xd xs xh xn xa (wr.alloc (stBox xo xd xs xh xn xa)) := heap_alloc_new _ _
      have hk1 : k + 1 ≤ m := by omega
      clear hq hb0
      dsimp only [stBox] at hq1 hS
      go_upto_region 12 with (fail)
      generalize World.alloc _ _ = W1 at hq1 hS ⊢
      clear c0 c1 c2 c3 c4 c5
      obtain ⟨s0, s1, s2, s3, s4, s5⟩ := hS.cell
      by_cases h1 : xo = 1
      · subst h1
        go_wp2_with fail
        refine Calls.mono (hq1.pUpd xd xs xh xn xa hxd hxs hxh hxn hxa) ?_
        rintro e w3 ⟨rfl, hq2, hk2⟩
        obtain ⟨r0, r1, r2, r3, r4, r5⟩ := StB.cell (show StB _ _ _ _ _ _ _ w3 from (hk2 _ rfl).trans hS)
        go_wp2_with fail
        refine Calls.mono (hq2.rUpd xd xs xh xn xa hxd hxs hxh hxn hxa) ?_
        rintro e w4 ⟨rfl, hq3, hk3⟩
        have hq4 := hq3.lets (X' := fun _ => False) (fun _ h => h.elim)
        obtain ⟨s2, n2, c2, hc2, HLi, HLn⟩ := hq4.lists
        go_upto_region 39 with (fail)
        go_cut [23] from 186 to 192 (fun r W => r = .bool true ∧ Below w4.heap.size w4 W)
        case first =>
          go_region_law (first
            | (go_simp; go_at_call 50; refine (HLi.out _ (by first | exact Below.refl _ _ | exact draws_below _ 1 | exact draws_below _ _)).mono ?_; rintro e w5 ⟨a5, n5, c5, rfl, hl5, hb5⟩; have hc5 := cell_later hb5 hc2)
            | (go_simp; go_at_call 49; refine (HLn.out _ _ hb5 hl5).mono ?_; rintro e w6 ⟨rfl, hb6⟩))
          all_goals
            go_wp2_with fail
            go_meet
            exact ⟨rfl, hb6⟩
        case rest =>
          obtain ⟨rfl, hb6⟩ := hcut
          have hq6 := hq4.later hb6
          go_wp2_with fail
          go_roundw
          case rel => exact ⟨k + 1, _, hk1, by go_num, hq6⟩
          case measure => simp [intOf]; omega
      by_cases h2 : xo = 2
      · subst h2
        have hF4 := hq1.find4 xd xa
        go_wp2_with fail
        refine Calls.mono (hq1.pFind xd xa hxd) ?_
        rintro e w3 ⟨v1, rfl, hr1, hb1⟩
        generalize hFe : findL A xd xa = F at hr1 hF4 ⊢
        obtain ⟨F1, F2⟩ := F
        dsimp only at hr1 hF4 ⊢
        obtain ⟨a1, c1, rfl, _⟩ := row_form hr1
        have hbx : Below w3.heap.size w3 (w3.alloc (rtBox F1 (.slice a1 F1.bef.length c1))) := (Below.refl _ _).alloc (Nat.le_refl _) _
        have hX := LnB.new F1 (.slice a1 F1.bef.length c1) w3
        have hq2 := (hq1.later hb1).later hbx
        have hS2 := (hS.later hb1).later hbx
        have hr2 := step_append_kept hr1 hbx
        dsimp only [rtBox] at hX hq2 hS2 hr2
        clear hbx hr1 hb1
        clear s0 s1 s2 s3 s4 s5
        go_upto_region 19 with (fail)
        generalize World.alloc _ _ = W3 at hX hq2 hS2 hr2 ⊢
        generalize w3.heap.size = B1 at hX ⊢
        obtain ⟨r0, r1, r2, r3, r4, r5⟩ := hS2.cell
        go_wp2_with fail
        refine Calls.mono (hq2.rFind xd xa) ?_
        rintro e w5 ⟨v2, rfl, hr5, hb5⟩
        rw [hFe] at hr5
        rw [hFe]
        dsimp only at hr5 ⊢
        obtain ⟨a2, c2, rfl, _⟩ := row_form hr5
        have hby : Below w5.heap.size w5 (w5.alloc (rtBox F1 (.slice a2 F1.bef.length c2))) := (Below.refl _ _).alloc (Nat.le_refl _) _
        have hY := LnB.new F1 (.slice a2 F1.bef.length c2) w5
        have hX5 := (hX.later hb5).later hby
        have hq5 := (hq2.later hb5).later hby
        have hrx := step_append_kept (step_append_kept hr2 hb5) hby
        have hry := step_append_kept hr5 hby
        dsimp only [rtBox] at hY hX5 hq5 hrx hry
        clear hX hq2 hS2 hr2 hb5 hby hr5 r0 r1 r2 r3 r4 r5
        go_upto_region 20 with (fail)
        generalize World.alloc _ _ = W5 at hY hX5 hq5 hrx hry ⊢
        generalize w5.heap.size = B2 at hY ⊢
        obtain ⟨x0, x1, x2, x3, x4, x5, x6⟩ := hX5.cell
        obtain ⟨y0, y1, y2, y3, y4, y5, y6⟩ := hY.cell
        have hRS := (show Hid _ from route_same F1 (.slice a1 F1.bef.length c1) (.slice a2 F1.bef.length c2) hF4 W5 hrx hry)
        clear hX5 hY hrx hry
        go_wp2_with fail
        refine Calls.mono hRS.out ?_
        rintro e w6 ⟨rfl, hb6⟩
        have hq6 := (hq5.later hb6).lets (X' := fun _ => False) (fun _ h => h.elim)
        have hF2 : (F2 == F2) = true := by cases F2 <;> rfl
        clear x0 x1 x2 x3 x4 x5 x6 y0 y1 y2 y3 y4 y5 y6 hRS hq5 hb6
        obtain ⟨s2, n2, c2, hc2, HLi, HLn⟩ := hq6.lists
        go_upto_region 39 with (fail)
        go_cut [23] from 186 to 192 (fun r W => r = .bool true ∧ Below w6.heap.size w6 W)
        case first =>
          go_region_law (first
            | (go_simp; go_at_call 50; refine (HLi.out _ (by first | exact Below.refl _ _ | exact draws_below _ 1 | exact draws_below _ _)).mono ?_; rintro e w5 ⟨a5, n5, c5, rfl, hl5, hb5⟩; have hc5 := cell_later hb5 hc2)
            | (go_simp; go_at_call 49; refine (HLn.out _ _ hb5 hl5).mono ?_; rintro e w6 ⟨rfl, hb6⟩))
          all_goals
            go_wp2_with fail
            go_meet
            exact ⟨rfl, hb6⟩
        case rest =>
          obtain ⟨rfl, hb6⟩ := hcut
          have hq6 := hq6.later hb6
          go_wp2_with fail
          go_roundw
          case rel => exact ⟨k + 1, _, hk1, by go_num, hq6⟩
          case measure => simp [intOf]; omega
      by_cases h3 : xo = 3
      · subst h3
        go_wp2_with fail
        refine Calls.mono (hq1.pUse xd xa hxd hxa) ?_
        rintro e w3 ⟨rfl, hq2, hk2⟩
        obtain ⟨r0, r1, r2, r3, r4, r5⟩ := StB.cell (show StB _ _ _ _ _ _ _ w3 from (hk2 _ rfl).trans hS)
        go_wp2_with fail
        refine Calls.mono (hq2.rUse xd xa hxa) ?_
        rintro e w4 ⟨rfl, hq3, hk3⟩
        have hq4 := hq3.lets (X' := fun _ => False) (fun _ h => h.elim)
        obtain ⟨s2, n2, c2, hc2, HLi, HLn⟩ := hq4.lists
        go_upto_region 39 with (fail)
        go_cut [23] from 186 to 192 (fun r W => r = .bool true ∧ Below w4.heap.size w4 W)
        case first =>
          go_region_law (first
            | (go_simp; go_at_call 50; refine (HLi.out _ (by first | exact Below.refl _ _ | exact draws_below _ 1 | exact draws_below _ _)).mono ?_; rintro e w5 ⟨a5, n5, c5, rfl, hl5, hb5⟩; have hc5 := cell_later hb5 hc2)
            | (go_simp; go_at_call 49; refine (HLn.out _ _ hb5 hl5).mono ?_; rintro e w6 ⟨rfl, hb6⟩))
          all_goals
            go_wp2_with fail
            go_meet
            exact ⟨rfl, hb6⟩
        case rest =>
          obtain ⟨rfl, hb6⟩ := hcut
          have hq6 := hq4.later hb6
          go_wp2_with fail
          go_roundw
          case rel => exact ⟨k + 1, _, hk1, by go_num, hq6⟩
          case measure => simp [intOf]; omega
      by_cases h4 : xo = 4
      · subst h4
        go_wp2_with fail
        refine Calls.mono (hq1.pBef xd xn hxd hxn) ?_
        rintro e w3 ⟨rfl, hq2, hk2⟩
        obtain ⟨r0, r1, r2, r3, r4, r5⟩ := StB.cell (show StB _ _ _ _ _ _ _ w3 from (hk2 _ rfl).trans hS)
        go_wp2_with fail
        refine Calls.mono (hq2.rBef xd xn hxn) ?_
        rintro e w4 ⟨rfl, hq3, hk3⟩
        have hq4 := hq3.lets (X' := fun _ => False) (fun _ h => h.elim)
        obtain ⟨s2, n2, c2, hc2, HLi, HLn⟩ := hq4.lists
        go_upto_region 39 with (fail)
        go_cut [23] from 186 to 192 (fun r W => r = .bool true ∧ Below w4.heap.size w4 W)
        case first =>
          go_region_law (first
            | (go_simp; go_at_call 50; refine (HLi.out _ (by first | exact Below.refl _ _ | exact draws_below _ 1 | exact draws_below _ _)).mono ?_; rintro e w5 ⟨a5, n5, c5, rfl, hl5, hb5⟩; have hc5 := cell_later hb5 hc2)
            | (go_simp; go_at_call 49; refine (HLn.out _ _ hb5 hl5).mono ?_; rintro e w6 ⟨rfl, hb6⟩))
          all_goals
            go_wp2_with fail
            go_meet
            exact ⟨rfl, hb6⟩
        case rest =>
          obtain ⟨rfl, hb6⟩ := hcut
          have hq6 := hq4.later hb6
          go_wp2_with fail
          go_roundw
          case rel => exact ⟨k + 1, _, hk1, by go_num, hq6⟩
          case measure => simp [intOf]; omega
      by_cases h5 : xo = 5
      · subst h5
        go_wp2_with fail
        refine Calls.mono (hq1.pLose xn xd xs hxd hxs) ?_
        rintro e w3 ⟨rfl, hq2, hk2⟩
        obtain ⟨r0, r1, r2, r3, r4, r5⟩ := StB.cell (show StB _ _ _ _ _ _ _ w3 from (hk2 _ rfl).trans hS)
        go_wp2_with fail
        refine Calls.mono (hq2.rLose xn xd xs hxs) ?_
        rintro e w4 ⟨rfl, hq3, hk3⟩
        have hq4 := hq3.lets (X' := fun _ => False) (fun _ h => h.elim)
        obtain ⟨s2, n2, c2, hc2, HLi, HLn⟩ := hq4.lists
        go_upto_region 39 with (fail)
        go_cut [23] from 186 to 192 (fun r W => r = .bool true ∧ Below w4.heap.size w4 W)
        case first =>
          go_region_law (first
            | (go_simp; go_at_call 50; refine (HLi.out _ (by first | exact Below.refl _ _ | exact draws_below _ 1 | exact draws_below _ _)).mono ?_; rintro e w5 ⟨a5, n5, c5, rfl, hl5, hb5⟩; have hc5 := cell_later hb5 hc2)
            | (go_simp; go_at_call 49; refine (HLn.out _ _ hb5 hl5).mono ?_; rintro e w6 ⟨rfl, hb6⟩))
          all_goals
            go_wp2_with fail
            go_meet
            exact ⟨rfl, hb6⟩
        case rest =>
          obtain ⟨rfl, hb6⟩ := hcut
          have hq6 := hq4.later hb6
          go_wp2_with fail
          go_roundw
          case rel => exact ⟨k + 1, _, hk1, by go_num, hq6⟩
          case measure => simp [intOf]; omega
      by_cases h6 : xo = 6
      · subst h6
        go_wp2_with fail
        refine Calls.mono (hq1.pBrk xn) ?_
        rintro e w3 ⟨⟨v1, rfl, hr1, hq2⟩, hk2⟩
        obtain ⟨r0, r1, r2, r3, r4, r5⟩ := StB.cell (show StB _ _ _ _ _ _ _ w3 from (hk2 _ rfl).trans hS)
        have hln := Nat.le_trans (brkL_length xn A) hq1.len8
        go_wp2_with fail
        refine Calls.mono (hq2.rBrk xn) ?_
        rintro e w4 ⟨⟨v2, rfl, hr2, hq3⟩, hk3⟩
        have hr3 := row_at hr1 (fun q hq => hk3 q (.inr hq))
        obtain ⟨a1, c1, rfl, hH1⟩ := row_form hr3
        obtain ⟨a2, c2, rfl, hH2⟩ := row_form hr2
        clear hr1 hr2 hr3 hk3 hk2 hS r0 r1 r2 r3 r4 r5 s0 s1 s2 s3 s4 s5
        go_wp2_with fail
        refine Calls.mono (lost_same a1 a2 _ c1 c2 _ rfl (by omega) w4 hH1 hH2) ?_
        rintro e w5 ⟨rfl, hb5⟩
        have hq4 := (hq3.later hb5).lets (X' := fun _ => False) (fun _ h => h.elim)
        obtain ⟨s2, n2, c2, hc2, HLi, HLn⟩ := hq4.lists
        go_upto_region 39 with (fail)
        go_cut [23] from 186 to 192 (fun r W => r = .bool true ∧ Below w5.heap.size w5 W)
        case first =>
          go_region_law (first
            | (go_simp; go_at_call 50; refine (HLi.out _ (by first | exact Below.refl _ _ | exact draws_below _ 1 | exact draws_below _ _)).mono ?_; rintro e w5 ⟨a5, n5, c5, rfl, hl5, hb5⟩; have hc5 := cell_later hb5 hc2)
            | (go_simp; go_at_call 49; refine (HLn.out _ _ hb5 hl5).mono ?_; rintro e w6 ⟨rfl, hb6⟩))
          all_goals
            go_wp2_with fail
            go_meet
            exact ⟨rfl, hb6⟩
        case rest =>
          obtain ⟨rfl, hb6⟩ := hcut
          have hq6 := hq4.later hb6
          go_wp2_with fail
          go_roundw
          case rel => exact ⟨k + 1, _, hk1, by go_num, hq6⟩
          case measure => simp [intOf]; omega
      by_cases h7 : xo = 7
      · subst h7
        go_wp2_with fail
        refine Calls.mono (hq1.pExp xa) ?_
        rintro e w3 ⟨rfl, hq2, hk2⟩
        obtain ⟨r0, r1, r2, r3, r4, r5⟩ := StB.cell (show StB _ _ _ _ _ _ _ w3 from (hk2 _ rfl).trans hS)
        go_wp2_with fail
        refine Calls.mono (hq2.rExp xa) ?_
        rintro e w4 ⟨rfl, hq3, hk3⟩
        have hq4 := hq3.lets (X' := fun _ => False) (fun _ h => h.elim)
        obtain ⟨s2, n2, c2, hc2, HLi, HLn⟩ := hq4.lists
        go_upto_region 39 with (fail)
        go_cut [23] from 186 to 192 (fun r W => r = .bool true ∧ Below w4.heap.size w4 W)
        case first =>
          go_region_law (first
            | (go_simp; go_at_call 50; refine (HLi.out _ (by first | exact Below.refl _ _ | exact draws_below _ 1 | exact draws_below _ _)).mono ?_; rintro e w5 ⟨a5, n5, c5, rfl, hl5, hb5⟩; have hc5 := cell_later hb5 hc2)
            | (go_simp; go_at_call 49; refine (HLn.out _ _ hb5 hl5).mono ?_; rintro e w6 ⟨rfl, hb6⟩))
          all_goals
            go_wp2_with fail
            go_meet
            exact ⟨rfl, hb6⟩
        case rest =>
          obtain ⟨rfl, hb6⟩ := hcut
          have hq6 := hq4.later hb6
          go_wp2_with fail
          go_roundw
          case rel => exact ⟨k + 1, _, hk1, by go_num, hq6⟩
          case measure => simp [intOf]; omega
      have hq4 := hq1.lets (X' := fun _ => False) (fun _ h => h.elim)
      have b1 : (xo == 1) = false := by simpa using h1
      have b2 : (xo == 2) = false := by simpa using h2
      have b3 : (xo == 3) = false := by simpa using h3
      have b4 : (xo == 4) = false := by simpa using h4
      have b5 : (xo == 5) = false := by simpa using h5
      have b6 : (xo == 6) = false := by simpa using h6
      have b7 : (xo == 7) = false := by simpa using h7
      clear h1 h2 h3 h4 h5 h6 h7
      obtain ⟨s2, n2, c2, hc2, HLi, HLn⟩ := hq4.lists
      go_upto_region 39 with (fail)
      go_cut [23] from 186 to 192 (fun r W => r = .bool true ∧ Below W1.heap.size W1 W)
      case first =>
        go_region_law (first
          | (go_simp; go_at_call 50; refine (HLi.out _ (by first | exact Below.refl _ _ | exact draws_below _ 1 | exact draws_below _ _)).mono ?_; rintro e w5 ⟨a5, n5, c5, rfl, hl5, hb5⟩; have hc5 := cell_later hb5 hc2)
          | (go_simp; go_at_call 49; refine (HLn.out _ _ hb5 hl5).mono ?_; rintro e w6 ⟨rfl, hb6⟩))
        all_goals
          go_wp2_with fail
          go_meet
          exact ⟨rfl, hb6⟩
      case rest =>
        obtain ⟨rfl, hb6⟩ := hcut
        have hq6 := hq4.later hb6
        go_wp2_with fail
        go_roundw
        case rel => exact ⟨k + 1, _, hk1, by go_num, hq6⟩
        case measure => simp [intOf]; omega
    · obtain ⟨s2, n2, c2, hc2, HLi, HLn⟩ := hq.lists
      have hbw := hq.below
      have hwz := hbw.size
      have hkm : k = m := by omega
      subst hkm
      go_upto_region 42 with (fail)
      go_cut [6] from 199 to 205 (fun r W => r = .bool true ∧ Below wr.heap.size wr W)
      case first =>
        go_region_law (first
          | (go_simp; go_at_call 50; refine (HLi.out _ (by first | exact Below.refl _ _ | exact draws_below _ 1 | exact draws_below _ _)).mono ?_; rintro e w5 ⟨a5, n5, c5, rfl, hl5, hb5⟩; have hc5 := cell_later hb5 hc2)
          | (go_simp; go_at_call 49; refine (HLn.out _ _ hb5 hl5).mono ?_; rintro e w6 ⟨rfl, hb6⟩))
        all_goals
          go_wp2_with fail
          go_meet
          exact ⟨rfl, hb6⟩
      case rest =>
        obtain ⟨rfl, hb6⟩ := hcut
        go_wp2
        go_ret
        exact ⟨rfl, hbw.trans (hb6.mono hwz)⟩
end Go.Proofs.Ytpdjhcfkhblioaa
