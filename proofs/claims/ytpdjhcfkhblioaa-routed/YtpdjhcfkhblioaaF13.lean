import Derived.Test.YtpdjhcfkhblioaaF12
import Derived.Test.YtpdjhcfkhblioaaF10
namespace Go.Proofs.Ytpdjhcfkhblioaa
open Go.RowKit Go.Maps

theorem srcU_nil (W : World) : Src Try.prog 1 77 (.slice none 0 0) 0 [] W := Src.ofNil W Try.underlying77 0

set_option maxRecDepth 100000 in
set_option maxHeartbeats 4000000 in
theorem rBefore_nil {me : Int} {T : Nat} {L : List (Rt × Value)} {S : Nat → Prop} {w : World} {G cap : Nat} {x : Rt} (hM : RM me T (.slice (some ⟨G, 0, none⟩) L.length cap) L w) (hS : ∀ k, RIn T (.slice (some ⟨G, 0, none⟩) L.length cap) L k → S k) (d n : Int) (hn : U32 n) (hl : lineOf (L.map (·.1)) d = some x) (hp : L[pos (L.map (·.1)) d]? = some (x, .slice none 0 0)) (hx0 : x.bef = []) (hxd : x.dest = d) (hxv : x.valid = true) :
    Calls Try.prog 42 #[.pointer (some ⟨T, 0, none⟩), .int .u32 d, .int .u32 n] w fun e w' => e = .returned (.tuple #[]) ∧ RTab me T (ext S w.heap.size w'.heap.size) (befL (L.map (·.1)) d n) w' ∧ Fx S w w' := by
  obtain ⟨i0, hi, hz0, hz1, hz2⟩ := info_parts info_u32
  have HL := line_any hM d
  rw [hl] at HL
  have HLh := (show Hid _ from HL)
  have hj := (List.getElem?_eq_some_iff.1 hp).1
  have hlen := hM.len
  have hfinI : Hid (∀ (w7 : World) (v7 : Value), w7.ownsRow w.heap.size 23 1 v7 1 [encU n] → Below w.heap.size w w7 → _) := fun w7 v7 ho hb => RM.befSet (w7 := w7) (v7 := v7) (k := 0) hM hS hp hxd hn hxv (by rw [hx0]; decide) (by rw [hx0]; simp) (Nat.zero_le _) (fun i y hi => by omega) (fun i y _ hy => by rw [hx0] at hy; simp at hy) (by rw [hx0]; simpa using ho) hb
  have hC : Hid (∀ W, Below w.heap.size w W → W.cell? ⟨T, 0, none⟩ = some (.int .u32 me) ∧ W.cell? ⟨T, 1, none⟩ = some (.slice (some ⟨G, 0, none⟩) L.length cap) ∧ W.cell? ⟨G, pos (L.map (·.1)) d * 7 + 4, none⟩ = some (.bool true) ∧ W.cell? ⟨G, pos (L.map (·.1)) d * 7 + 6, none⟩ = some (.slice none 0 0) ∧ W.frozen? ⟨G, pos (L.map (·.1)) d * 7 + 6, none⟩ = false) := by
    intro W hb
    have hMW := hM.later hb
    obtain ⟨G', cap', hv, hc, hf⟩ := hMW.at hp
    cases hv
    exact ⟨hMW.cell.1, hMW.cell.2, by rw [← hxv]; exact hc 4 _ rfl, hc 6 _ rfl, hf _⟩
  have hpj : (pos (L.map (·.1)) d : Int) < (L.length : Int) := by omega
  clear hM hS hl HL hxd hxv hp hx0
  generalize pos (L.map (·.1)) d = j at hj hpj HLh hfinI hC
  have hs1 := sliceU_nil none (some (.int .i64 0)) (.inl rfl) (.inr rfl)
  have hs2 := sliceU_nil (some (.int .i64 0)) none (.inr rfl) (.inl rfl)
  have hap := appU_nil
  have hk3 : Hid (0 + 1 + 0 ≤ maxLen) := by show _ ≤ _; unfold maxLen; omega
  have hk4 : Hid ((0 + 1 + 0) * 4 ≤ 140737488355328) := by show _ ≤ _; omega
  have hk5 : Hid (0 + 1 ≤ maxLen) := by show _ ≤ _; unfold maxLen; omega
  have hk6 : Hid ((0 + 1) * 4 ≤ 140737488355328) := by show _ ≤ _; omega
  go_enter Try.func42, Try.ntmps42
  go_wp2_with fail
  refine Calls.mono HLh.out ?_
  rintro e w1 ⟨rfl, q, rfl⟩
  clear HLh
  simp only [Option.isSome_some]
  have hb1 := draws_below w q
  generalize World.drewN w q = W1 at hb1 ⊢
  obtain ⟨t0, t1, c4, c6, f6⟩ := hC.out W1 hb1
  go_wp2_with fail
  go_loopw [9] (fun i wr => i = .int .i64 0 ∧ W1 = wr) (fun i _ => 0 - (intOf i).toNat)
  case atStart => exact ⟨rfl, rfl⟩
  case round =>
    obtain ⟨rfl, hW⟩ := hrel
    subst hW
    have hs0 := hb1.size
    clear t0 t1 c4 c6 f6
    go_wp2_with (at_builtin; refine wpList_append_own_at _ rfl _ _ 77 rfl w.heap.size 23 i0 (.int .u32 0) 1 4 Try.underlying77 hi hz0 hz1 hz2 rfl (by decide) (.slice none 0 0) 0 [] rfl ⟨rfl, .inl ⟨rfl, rfl⟩⟩ ⟨W1.heap.size, 0, none⟩ 1 1 [encU n] rfl rfl (cells_u W1 n) (fun u hu => by simp at hu; subst hu; rfl) hk5.out hk6.out ?c3 ?_)
    case c3 => simp; omega
    intro v2 w2 ho2 hg2 hn2 _
    have hv2 : v2 ≠ .slice none 0 0 := hn2
    have hb3 : Below w.heap.size w w2 := (hb1.alloc hb1.size _).grown hg2 (by simp; omega) (fun k e => by cases e)
    have hlt3 := ho2.lt
    have hB7 : Hid (∀ w7, w2.drew.grownBy w7 v2.ownBlock → Below w.heap.size w w7) := fun w7 hg => (below_drewN hb3 1).grown hg hb3.size (fun k e => (hlt3 k e).1)
    have hw2 : w.heap.size ≤ w2.drew.heap.size := hb3.size
    obtain ⟨t0, t1, c4, c6, f6⟩ := hC.out w2 hb3
    obtain ⟨ao2, cp2, rfl, _⟩ := row_form ho2
    clear hg2 hn2 hlt3 hk5 hk6 hb1
    go_wp2_with fail
    go_region_law (refine step_append_src rfl (.tmp 83) (.tmp 86) 77 77 rfl w.heap.size 23 i0 (.int .u32 0) 1 4 Try.underlying77 hi hz0 hz1 hz2 rfl (.slice ao2 (0 + 1) cp2) (0 + 1) _ (by simp [Act.eval, Act.put]) ho2.drew hv2 (.slice none 0 0) 0 _ (by simp [Act.eval, Act.put]) (srcU_nil _) hk3.out hk4.out hw2 ?_; intro v7 w7 ho7 hg7 hn7; have hb7 := hB7.out w7 hg7; obtain ⟨ao7, cp7, rfl, _⟩ := row_form ho7; obtain ⟨t07, t17, c47, c67, f67⟩ := hC.out w7 hb7)
    all_goals
      have hf7 := hfinI.out _ _ (by simpa using ho7) hb7
      go_wp2
      go_returns
      exact ⟨rfl, hf7⟩

set_option maxRecDepth 100000 in
set_option maxHeartbeats 4000000 in
theorem rBefore_any (me : Int) (T : Nat) (S : Nat → Prop) (A : List Rt) (d n : Int) (hn : U32 n) (w : World) (h : RTab me T S A w) :
    Calls Try.prog 42 #[.pointer (some ⟨T, 0, none⟩), .int .u32 d, .int .u32 n] w fun e w' => e = .returned (.tuple #[]) ∧ RTab me T (ext S w.heap.size w'.heap.size) (befL A d n) w' ∧ Fx S w w' := by
  obtain ⟨v, L, rfl, hM, hS⟩ := h
  have HL := line_any hM d
  cases hl : lineOf (L.map (·.1)) d with
  | none =>
    rw [hl] at HL
    have HLh := (show Hid _ from HL)
    have hsame : Hid (∀ w', Below w.heap.size w w' → RTab me T (ext S w.heap.size w'.heap.size) (befL (L.map (·.1)) d n) w' ∧ Fx S w w') := fun w' hb =>
      ⟨(RTab.same hM hS hb (modL_none hl (befF n))).1.mono (fun _ h => .inl h), Fx.below hb⟩
    clear hM hS hl HL
    go_enter Try.func42, Try.ntmps42
    go_wp2_with fail
    refine Calls.mono HLh.out ?_
    rintro e w1 ⟨rfl, q, rfl⟩
    clear HLh
    simp only [Option.isSome_none]
    go_wp2
    go_returns
    exact ⟨rfl, hsame.out _ (draws_below w q)⟩
  | some x =>
    obtain ⟨u, hp, hxd⟩ := hM.line hl
    obtain ⟨G, cap, rfl, hc, hf⟩ := hM.at hp
    cases hxv : x.valid
    · have hsame : Hid (∀ w', Below w.heap.size w w' → RTab me T (ext S w.heap.size w'.heap.size) (befL (L.map (·.1)) d n) w' ∧ Fx S w w') := fun w' hb =>
        ⟨(RTab.same hM hS hb (modL_id hM.asc fun y hy => by
          rw [hl] at hy
          cases hy
          unfold befF
          rw [if_neg (by rw [hxv]; simp)])).1.mono (fun _ h => .inl h), Fx.below hb⟩
      rw [hl] at HL
      have HLh := (show Hid _ from HL)
      have hj := (List.getElem?_eq_some_iff.1 hp).1
      have hlen := hM.len
      obtain ⟨t0, t1⟩ := hM.cell
      have c4 := hc 4 _ rfl
      dsimp only at c4
      rw [hxv] at c4
      have hpj : (pos (L.map (·.1)) d : Int) < (L.length : Int) := by omega
      clear hM hS hl HL hc hf hp hxd
      generalize pos (L.map (·.1)) d = j at hj hpj HLh c4
      go_enter Try.func42, Try.ntmps42
      go_wp2_with fail
      refine Calls.mono HLh.out ?_
      rintro e w1 ⟨rfl, q, rfl⟩
      clear HLh
      simp only [Option.isSome_some]
      go_wp2
      go_returns
      exact ⟨rfl, hsame.out _ (draws_below w q)⟩
    · have hr := hM.bef _ (List.mem_of_getElem? hp)
      dsimp only at hr
      rcases hr.2 with ⟨rfl, h0⟩ | ⟨g, uc, cur, rfl, rest⟩
      · have hx0 : x.bef = [] := by
          obtain ⟨a, c, hv, _⟩ := row_form hr
          cases hb : x.bef with
          | nil => rfl
          | cons a l => rw [hb] at hv; cases hv
        exact rBefore_nil hM hS d n hn hl hp hx0 hxd hxv
      · exact rBefore_some hM hS d n hn hl hp hxd hxv

set_option maxRecDepth 100000 in
set_option maxHeartbeats 4000000 in
theorem rUpdate_add {me : Int} {T : Nat} {v : Value} {L : List (Rt × Value)} {S : Nat → Prop} {w : World} (hM0 : RM me T v L w) (hS : ∀ k, RIn T v L k → S k) (d s h n e : Int) (hd : ¬ d = me) (hd0 : ¬ d = 0) (hdu : U32 d) (hs : U32 s) (hh : I64 h) (hn : U32 n) (he : U64 e) (hl : lineOf (L.map (·.1)) d = none) (h8 : ¬ 8 ≤ L.length) :
    Calls Try.prog 35 #[.pointer (some ⟨T, 0, none⟩), .int .u32 d, .int .u32 s, .int .i64 h, .int .u32 n, .int .u64 e] w fun r w' => r = .returned (.int .i64 0) ∧ RTab me T (ext S w.heap.size w'.heap.size) (insL (L.map (·.1)) (newR d s h n e)) w' ∧ Fx S w w' := by
  have q1 : (d == me) = false := by simpa using hd
  have q2 : (d == 0) = false := by simpa using hd0
  have hb : Below w.heap.size w (w.alloc (rtBox (newR d s h n e) (.slice none 0 0))) := (Below.refl _ _).alloc (Nat.le_refl _) _
  have hM := hM0.later hb
  have hN := LnB.new (newR d s h n e) (.slice none 0 0) w
  have HL := line_any hM d
  rw [hl] at HL
  have HLh := (show Hid _ from HL)
  obtain ⟨vo, vc, rfl⟩ := hM.slice
  obtain ⟨t0', t1'⟩ := hM0.cell
  obtain ⟨t0, t1⟩ := hM.cell
  have hlen := hM.len
  have h8i : decide ((8 : Int) ≤ (L.length : Int)) = false := decide_eq_false (by omega)
  have h8n : decide (8 ≤ L.length) = false := decide_eq_false h8
  have HA : Hid (∀ W, Below w.heap.size w W → Calls Try.prog 81 #[.pointer (some ⟨T, 0, none⟩), .int .i64 (pos (L.map (·.1)) d), rtV (newR d s h n e) (.slice none 0 0)] W fun e' w' => e' = .returned (.tuple #[]) ∧ RTab me T (ext S w.heap.size w'.heap.size) (insL (L.map (·.1)) (newR d s h n e)) w' ∧ Fx S w w') := by
    intro W hb
    refine (add_any (S := S) (hM0.later hb) hS (newR d s h n e) (newR_ok hdu hs hh hn he) rfl hl (by omega)).mono ?_
    rintro e' w' ⟨rfl, h1, h2⟩
    exact ⟨rfl, h1.mono (fun k hk => by
      rcases hk with hk | hk
      · exact .inl hk
      · exact .inr ⟨Nat.le_trans hb.size hk.1, hk.2⟩), (Fx.below (S := S) hb).trans h2 (fun _ _ h => h)⟩
  have hbh := (show Hid _ from hb)
  dsimp only [rtBox, newR, rtV] at HLh t0 t1 hbh hN HA
  clear HL hM hM0 hd hd0 hl hb hS
  generalize pos (L.map (·.1)) d = j at HLh HA
  go_enter Try.func35, Try.ntmps35
  go_wp2_with fail
  refine Calls.mono HLh.out ?_
  rintro r w1 ⟨rfl, q, rfl⟩
  clear HLh
  simp only [Option.isSome_none]
  have hb1 := below_drewN hbh.out q
  have hN1 := (show LnB w.heap.size ⟨d, s, h, n, true, e, []⟩ (.slice none 0 0) _ from hN).later (draws_below _ q)
  obtain ⟨n0, n1, n2, n3, n4, n5, n6⟩ := hN1.cell
  dsimp only at n0 n1 n2 n3 n4 n5 n6
  clear hN1 hN
  go_wp2_with fail
  refine Calls.mono (HA.out _ hb1) ?_
  rintro r w2 ⟨rfl, h1, h2⟩
  have hfin := (show Hid _ from And.intro h1 h2)
  clear h1 h2 HA n0 n1 n2 n3 n4 n5 n6
  go_wp2
  go_ret
  exact ⟨rfl, hfin.out⟩

theorem rUpdate_any (me : Int) (T : Nat) (S : Nat → Prop) (A : List Rt) (d s h n e : Int) (hd : U32 d) (hs : U32 s) (hh : I64 h) (hn : U32 n) (he : U64 e) (w : World) (hTab : RTab me T S A w) :
    Calls Try.prog 35 #[.pointer (some ⟨T, 0, none⟩), .int .u32 d, .int .u32 s, .int .i64 h, .int .u32 n, .int .u64 e] w fun r w' => r = .returned (.int .i64 (updL me A d s h n e).2) ∧ RTab me T (ext S w.heap.size w'.heap.size) (updL me A d s h n e).1 w' ∧ Fx S w w' := by
  obtain ⟨v, L, rfl, hM, hS⟩ := hTab
  have hold : ∀ w', Below w.heap.size w w' → RTab me T (ext S w.heap.size w'.heap.size) (L.map (·.1)) w' ∧ Fx S w w' := fun w' hb => ⟨(RTab.same hM hS hb rfl).1.mono (fun _ h => .inl h), Fx.below hb⟩
  unfold updL
  by_cases hown : d = me ∨ d = 0
  · rw [if_pos hown]
    refine (rUpdate_own hM d s h n e hown).mono ?_
    rintro r w' ⟨rfl, rfl⟩
    exact ⟨rfl, hold _ (Below.refl _ _)⟩
  · rw [if_neg hown]
    have hd1 : ¬ d = me := fun h => hown (.inl h)
    have hd0 : ¬ d = 0 := fun h => hown (.inr h)
    cases hl : lineOf (L.map (·.1)) d with
    | some x =>
      refine (rUpdate_there hM hS d s h n e hd1 hd0 hd hs hh hn he hl).mono ?_
      rintro r w' (⟨hg, rfl, h1, h2⟩ | ⟨hg, rfl, hb⟩)
      · dsimp only
        rw [if_pos hg]
        exact ⟨rfl, h1.mono (fun _ h => .inl h), h2⟩
      · dsimp only
        rw [if_neg (by rw [hg]; simp)]
        exact ⟨rfl, hold _ hb⟩
    | none =>
      dsimp only
      by_cases h8 : 8 ≤ L.length
      · rw [if_pos (by rw [List.length_map]; exact h8)]
        refine (rUpdate_full hM d s h n e hd1 hd0 hl h8).mono ?_
        rintro r w' ⟨rfl, hb⟩
        exact ⟨rfl, hold _ hb⟩
      · rw [if_neg (by rw [List.length_map]; exact h8)]
        exact rUpdate_add hM hS d s h n e hd1 hd0 hd hs hh hn he hl h8
end Go.Proofs.Ytpdjhcfkhblioaa
