import Derived.Test.YtakaadcpaeiccabGreatGY
import Derived.Test.YtakaadcpaeiccabGreatGT
import Derived.Deep.RegionWith
namespace Go.Proofs.YtakaadcpaeiccabGreat
open Go.RowKit Go.Maps

theorem owL_norm (L : List (Bool × Int × Int)) : owL (L.map norm) = owL L := by
  unfold owL
  generalize (none : Option Int) = c
  induction L generalizing c with
  | nil => rfl
  | cons x L ih =>
    simp only [List.map_cons, List.foldl_cons]
    rw [ih]
    rfl
theorem RBd_norm {L : List (Bool × Int × Int)} (h : RBd L) : RBd (L.map norm) := by
  intro x hx
  obtain ⟨y, hy, rfl⟩ := List.mem_map.1 hx
  have := h y hy
  unfold norm
  dsimp only
  split <;> omega
theorem expL_dead {A : List Rt} (h : ∀ y ∈ A, y.valid = false) (now : Int) : expL A now = A := by
  unfold expL
  conv => rhs; rw [← List.map_id A]
  refine List.map_congr_left fun y hy => ?_
  simp [expF, expP, h y hy]
theorem nwL_dead (me : Int) (out : List (Bool × Int × Int)) : ∀ y ∈ nwL me out, y.valid = false := by
  intro y hy
  have h := nwL_mem me out out.length y (by rwa [List.take_length])
  obtain ⟨j, x, _, _, _, rfl⟩ := h
  rfl
theorem nws_keep {f : Int → Option Int} : ∀ (A : List Rt) (ls : List (Bool × Int × Int)), (∀ y ∈ A, f y.dest = some y.seq) → A.foldl nwsS (f, ls) = (f, ls) := by
  intro A
  induction A with
  | nil => intro ls _; rfl
  | cons y A ih =>
    intro ls h
    rw [List.foldl_cons]
    have hy := h y (List.mem_cons_self ..)
    have : nwsS (f, ls) y = (f, ls) := nwsS_no (by simp [isNew, hy])
    rw [this]
    exact ih ls fun z hz => h z (List.mem_cons_of_mem _ hz)
theorem nws_has : ∀ (A : List Rt) (st : (Int → Option Int) × List (Bool × Int × Int)), A.Pairwise (fun x y => x.dest < y.dest) → (∀ y ∈ A, st.1 y.dest = none) → ∀ y ∈ A, (A.foldl nwsS st).1 y.dest = some y.seq := by
  have hkeep : ∀ (A : List Rt) (st : (Int → Option Int) × List (Bool × Int × Int)) (d : Int), (∀ y ∈ A, y.dest ≠ d) → (A.foldl nwsS st).1 d = st.1 d := by
    intro A
    induction A with
    | nil => intro st d _; rfl
    | cons z A ih =>
      intro st d h
      rw [List.foldl_cons, ih _ d fun y hy => h y (List.mem_cons_of_mem _ hy)]
      unfold nwsS
      split
      · have := h z (List.mem_cons_self ..)
        simp [updU, Ne.symm this]
      · rfl
  intro A
  induction A with
  | nil => intro st _ _ y hy; simp at hy
  | cons z A ih =>
    intro st hp h y hy
    rw [List.foldl_cons]
    have hz := h z (List.mem_cons_self ..)
    have hs : nwsS st z = (updU st.1 z.dest (some z.seq), st.2 ++ [(false, z.dest, z.seq)]) := nwsS_yes (by simp [isNew, hz])
    have hpp := List.pairwise_cons.1 hp
    rcases List.mem_cons.1 hy with rfl | hy
    · rw [hkeep _ _ _ fun u hu => by have := hpp.1 u hu; omega, hs]
      simp [updU]
    · refine ih _ hpp.2 (fun u hu => ?_) y hy
      rw [hs]
      have := hpp.1 u hu
      simp only [updU]
      rw [if_neg (by omega)]
      exact h u (List.mem_cons_of_mem _ hu)
theorem newsP_again {q : Int} {A : List Rt} (hA : Asc A) : newsP q q (newsP q 0 (fun _ => none) A).1 A = ((newsP q 0 (fun _ => none) A).1, []) := by
  have h1 := nws_has A ((fun _ => none), nwsO q 0) hA (fun _ _ => rfl)
  have h2 : nwsO q q = [] := by simp [nwsO]
  show A.foldl nwsS _ = _
  rw [h2]
  exact nws_keep A [] h1
theorem mxO_self (q : Int) : mxO q q = q := by simp [mxO]
/-- The frame that tells what is lost is one, of kind 3. -/
theorem lsB_frame {d s : Int} (hd : U32 d) (hs : U32 s) : isF (strNums (lsB [(d, s)])) = true ∧ (∃ x0 r, strNums (lsB [(d, s)]) = x0 :: 3 :: r) ∧ (lsB [(d, s)]).size ≤ 65536 := by
  have hg : (lsP 1).goodB = true := by kernel_rfl
  have he : encX (lsP 1) [(d, s)] = encB (lsP 1) [(d, s)] := by simp [encX, hg]
  have hee : encB (lsP 1) [(d, s)] = [1, 3, 0, 0, 1] ++ (b4 d ++ b4 s) := rfl
  have hb : ∀ x ∈ encB (lsP 1) [(d, s)], 0 ≤ x ∧ x ≤ 255 := by
    rw [hee]
    unfold U32 at hd hs
    intro x hx
    rcases List.mem_append.1 hx with hx | hx
    · simp only [List.mem_cons, List.not_mem_nil, or_false] at hx
      rcases hx with rfl | rfl | rfl | rfl | rfl <;> omega
    · rcases List.mem_append.1 hx with hx | hx
      · exact b4_b hd.1 (by omega) x hx
      · exact b4_b hs.1 (by omega) x hx
  have hn : strNums (lsB [(d, s)]) = encB (lsP 1) [(d, s)] := by
    unfold lsB
    show strNums (strOfNums (encX (lsP 1) [(d, s)])) = _
    rw [he]
    exact strNums_of hb
  have hsz : (lsB [(d, s)]).size = 13 := by
    rw [← strNums_length, hn, hee]
    rfl
  rw [hn]
  refine ⟨isF_enc _ hg _ rfl, ?_, by omega⟩
  rw [encB_cons]
  exact ⟨_, _, rfl⟩
end Go.Proofs.YtakaadcpaeiccabGreat

namespace Go.Proofs.YtakaadcpaeiccabGreat
open Go.RowKit Go.Maps

theorem own_low : ∀ (L : List (Bool × Int × Int)) (b : Int), 0 ≤ b → b ≤ ((L.foldl stepO (some b)).getD 0) := by
  intro L
  induction L with
  | nil => intro b _; exact Int.le_refl _
  | cons x L ih =>
    intro b hb
    rw [List.foldl_cons]
    unfold stepO
    split
    · simp only [Option.getD_some]
      have := ih (max b x.2.2) (by omega)
      exact Int.le_trans (Int.le_max_left _ _) this
    · exact ih b hb
/-- What holds of a silent node from call to call. -/
structure QInv (w : World) (N : Nat) (M : Nat) (ff : Int → Option Nat) (A : List Rt) (f : Int → Option Int) (q : Int) (k : Nat) (x : NdV) (gg : Int → Value) (sz : Nat) (W : World) : Prop where
  nd : NdM N x M ff gg A f sz W
  lk : x.lk = 0
  self : x.self = 1
  seq : x.seq = q
  own : x.own = q
  sil : 2099 < x.sil
  cnt0 : 0 ≤ x.cnt
  cnt : x.cnt ≤ 9
  size : sz ≤ 8 + 16 * k
  low : ∀ j, NdIn N x M ff gg A j → w.heap.size ≤ j
  below : Below w.heap.size w W

theorem conv_vb (s : ByteArray) (hs : s.size ≤ 65536) (w : World) : ∃ cap W, (convert 9 58 (.string s)).run Tryz.prog w = .ok (.slice (some ⟨w.heap.size, 0, none⟩) s.size cap) W ∧ Below w.heap.size w W ∧ VB W (.slice (some ⟨w.heap.size, 0, none⟩) s.size cap) (strNums s) := by
  refine ⟨_, _, run_bytes_of_string (P := Tryz.prog) w 9 58 5 s Tryz.underlying9 Tryz.underlying58 Tryz.underlying5, (Below.refl w.heap.size w).drew.alloc (Nat.le_refl _) _, rest_new s hs w _, fun b o n c hv => ?_⟩
  simp only [Value.slice.injEq, Option.some.injEq, Addr.mk.injEq, and_true] at hv
  obtain ⟨⟨rfl, rfl⟩, _⟩ := hv
  exact ⟨_, _, heap_alloc_new w.drew _⟩
theorem HoldsC.ofRowV {W : World} {base e size n c : Nat} {ao : Option Addr} {cs : List Value} (h : W.ownsRow base e size (.slice ao n c) n cs) : HoldsC W ao cs := by
  obtain ⟨ao', c', he, hH⟩ := row_form h
  cases he
  exact hH
theorem SilP.sil {x : NdV} {A : List Rt} {now fr : Int} {xs : List Int} {x' : NdV} {fs : List (Int × ByteArray)} {r : Int} (h : SilP x A now fr xs x' fs r) (hx : 2099 < x.sil) (hn : 100 ≤ now) : 2099 < x'.sil := by
  rcases h with ⟨_, rfl, _⟩ | ⟨_, p, _, rfl, _⟩
  · exact hx
  · unfold silS
    split
    · show 2099 < now + 2000
      omega
    · exact hx
theorem SilP.frame {x : NdV} {A : List Rt} {now fr : Int} {xs : List Int} {x' : NdV} {fs : List (Int × ByteArray)} {r : Int} (h : SilP x A now fr xs x' fs r) (hA : ∀ y ∈ A, y.Ok) : ∀ z ∈ fs, ∃ d s, U32 d ∧ U32 s ∧ z = (fr, lsB [(d, s)]) := by
  rcases h with ⟨_, _, rfl, _⟩ | ⟨_, p, hp, _, rfl, _⟩
  · intro z hz
    simp at hz
  · intro z hz
    unfold silF at hz
    split at hz
    · rw [List.mem_singleton] at hz
      refine ⟨p.dest, numL A p.dest, ⟨hp.dest0, by have := hp.dest1; omega⟩, ?_, hz⟩
      unfold numL
      cases hl : lineOf A p.dest with
      | none => exact ⟨by simp, by simp⟩
      | some y => exact (hA y (lineOf_some hl).1).seq
    · simp at hz
theorem SilP.len {x : NdV} {A : List Rt} {now fr : Int} {xs : List Int} {x' : NdV} {fs : List (Int × ByteArray)} {r : Int} (h : SilP x A now fr xs x' fs r) : fs.length ≤ 1 := by
  rcases h with ⟨_, _, rfl, _⟩ | ⟨_, p, _, _, rfl, _⟩
  · simp
  · unfold silF
    split <;> simp
theorem wait_now {wt : Int} (h : U64 wt) : ∃ now, IntKind.u64.wrap (100 + wt.tmod 2000) = now ∧ 100 ≤ now ∧ now ≤ 2099 := by
  refine ⟨_, rfl, ?_⟩
  rw [Int.tmod_eq_emod_of_nonneg h.1]
  have h1 : 0 ≤ wt % 2000 := Int.emod_nonneg _ (by decide)
  have h2 : wt % 2000 < 2000 := Int.emod_lt_of_pos _ (by decide)
  simp only [IntKind.wrap, IntKind.signed, IntKind.bits]
  simp
  omega
theorem QInv.later {w : World} {N M : Nat} {ff : Int → Option Nat} {A : List Rt} {f : Int → Option Int} {q : Int} {k : Nat} {x : NdV} {gg : Int → Value} {sz : Nat} {W W' : World} (h : QInv w N M ff A f q k x gg sz W) (hb : Below W.heap.size W W') : QInv w N M ff A f q k x gg sz W' :=
  ⟨h.nd.later hb, h.lk, h.self, h.seq, h.own, h.sil, h.cnt0, h.cnt, h.size, h.low, h.below.trans (hb.mono h.below.size)⟩
theorem QInv.step {w : World} {N M : Nat} {ff : Int → Option Nat} {A : List Rt} {f : Int → Option Int} {q : Int} {k : Nat} {x : NdV} {gg : Int → Value} {sz : Nat} {W : World} (h : QInv w N M ff A f q k x gg sz W) : QInv w N M ff A f q (k + 1) x gg sz W :=
  ⟨h.nd, h.lk, h.self, h.seq, h.own, h.sil, h.cnt0, h.cnt, by have := h.size; omega, h.low, h.below⟩

set_option maxRecDepth 100000 in
set_option maxHeartbeats 8000000 in
theorem Quietly_short (ao : Option Addr) (n c : Nat) (L0 : List (Bool × Int × Int)) (hn : L0.length = n) (hn1 : n ≤ 200) (hb0 : RBd L0) (fo : Option Addr) (m fc : Nat) (F : List ByteArray) (hF : F.length = m) (hm1 : m ≤ 4096) (wt : Int) (hwt : U64 wt) (w : World) (hL : HoldsC w ao (RC L0)) (hFs : HoldsC w fo (F.map Value.string)) :
    Calls Tryz.prog 8 #[.slice ao n c, .slice fo m fc, .int .u64 wt] w fun e w' => e = .returned (.bool true) ∧ Below w.heap.size w w' := by
  obtain ⟨i0, hi, hz0, hz1, hz2⟩ := info_parts info_rec
  obtain ⟨i1, ji, jz0, jz1, jz2⟩ := info_parts info_u8
  have e0 : decide (200 < (n : Int)) = false := decide_eq_false (by omega)
  have e1 : decide (4096 < (m : Int)) = false := decide_eq_false (by omega)
  have hW0 : Below w.heap.size w (w.alloc (recBox true 0 6)) := (Below.refl _ _).alloc (Nat.le_refl _) _
  have hsrc := (hL.below hW0).src Tryz.underlying79 (size := 3) (n := n) c (by rw [RC_length, hn]) (by decide) (RC_oneCell L0)
  have ho0 : (w.alloc (recBox true 0 6)).ownsRow w.heap.size 82 3 (.slice (some ⟨w.heap.size, 0, none⟩) 1 1) 1 (RC [(true, 0, 6)]) :=
    ⟨rfl, .inr ⟨w.heap.size, 1, _, rfl, Nat.le_refl _, heap_alloc_new w _, Nat.le_refl _, by decide, rfl, rfl⟩⟩
  dsimp only [recBox] at hW0 hsrc ho0
  go_enter Tryz.func8, Tryz.ntmps8
  go_wp2_with (at_builtin; refine wpList_append_own_src _ rfl _ _ 79 79 rfl w.heap.size 82 i0 (.agg #[.bool false, .int .u32 0, .int .u32 0]) 3 12 Tryz.underlying79 hi hz0 hz1 hz2 rfl (.slice (some ⟨w.heap.size, 0, none⟩) 1 1) 1 (RC [(true, 0, 6)]) rfl ho0 (by simp) _ n (RC L0) rfl hsrc ?c1 ?c2 ?c3 ?_)
  case c1 => unfold maxLen; omega
  case c2 => omega
  case c3 => simp
  intro v1 W1 ho1 hg1 hv1
  have hB1 : Below w.heap.size w W1 := hW0.grown hg1 (by simp) (fun k hk => by simp [Value.ownBlock] at hk; omega)
  have hb1 : RBd ((true, 0, 6) :: L0) := by
    intro x hx
    rcases List.mem_cons.1 hx with rfl | hx
    · simp
    · exact hb0 x hx
  rw [← RC_append, show ([(true, 0, 6)] ++ L0 : List (Bool × Int × Int)) = (true, 0, 6) :: L0 from rfl] at ho1
  have hn2 : Hid (((true, 0, 6) :: L0 : List (Bool × Int × Int)).length = n + 1) := by
    show _ = _
    rw [List.length_cons, hn]
  rw [Nat.add_comm] at ho1
  have h6 : 6 ≤ (owL ((true, 0, 6) :: L0)).getD 0 := own_low L0 6 (by decide)
  generalize ((true, 0, 6) :: L0 : List (Bool × Int × Int)) = L at ho1 hb1 hn2 h6
  obtain ⟨g1, cap1, rfl, hgw⟩ := row_shape ho1 hv1
  have hL1 := HoldsC.ofRow ho1
  have hg1lt := ho1.lt g1 rfl
  clear hW0 hsrc ho0 hg1 hv1 hn hb0 hL
  go_wp2_with fail
  generalize hN1 : W1.heap.size = N1 at hg1lt hL1
  have hN1' := (show Hid _ from hN1)
  clear hN1
  have hBN : Below N1 W1 W1 := Below.refl _ _
  go_loopw [7, 8, 9] (fun bv mv i wr => ∃ k : Nat, k ≤ n + 1 ∧ i = .int .i64 k ∧ mv = .int .u32 (max 6 ((owL (L.take k)).getD 0)) ∧ wr.ownsRow N1 5 1 bv (13 * k) (U (flatR (L.take k))) ∧ Below N1 W1 wr ∧ N1 ≤ wr.heap.size) (fun _ _ i _ => n + 1 - (intOf i).toNat)
  case atStart => exact ⟨0, Nat.zero_le _, rfl, rfl, ⟨rfl, .inl ⟨rfl, rfl⟩⟩, hBN, Nat.le_of_eq hN1'.out.symm⟩
  case round =>
    clear hBN
    obtain ⟨k, hk, rfl, rfl, ho, hB, hNr⟩ := hrel
    by_cases hlt : k < n + 1
    · have hkL : k < L.length := by rw [hn2.out]; exact hlt
      obtain ⟨⟨o, a, s⟩, hx⟩ : ∃ x, L[k]? = some x := ⟨_, List.getElem?_eq_getElem hkL⟩
      have hbx := hb1 _ (List.mem_of_getElem? hx)
      dsimp only at hbx
      have hLr := hL1.below (W' := wr) (by rw [hN1'.out]; exact hB)
      have hg := RC_get L k
      rw [hx] at hg
      have c0 := hLr.one rfl hg.1
      have c1 := hLr.one rfl hg.2.1
      have c2 := hLr.one rfl hg.2.2
      simp only [Nat.zero_add] at c0 c1 c2
      have hst : Hid (flatR (L.take (k + 1)) = flatR (L.take k) ++ recB o a s) := by
        show _ = _
        rw [List.take_add_one, hx, flatR_append]
        rfl
      have eO : Hid (owL (L.take (k + 1)) = stepO (owL (L.take k)) (o, a, s)) := by
        show _ = _
        rw [take_snocR hx, owL_snoc]
      have HCL : Hid (∀ W, Below N1 W1 W → W.cell? ⟨g1, k * 3, none⟩ = some (.bool o) ∧ W.cell? ⟨g1, k * 3 + 2, none⟩ = some (.int .u32 s)) := by
        intro W hW
        have hLr' := hL1.below (W' := W) (by rw [hN1'.out]; exact hW)
        have c0 := hLr'.one rfl hg.1
        have c2 := hLr'.one rfl hg.2.2
        simp only [Nat.zero_add] at c0 c2
        exact ⟨c0, c2⟩
      clear hg hLr hx
      go_wp2_with fail
      refine (WriteRecord_any o a s hbx.1.1 hbx.1.2 hbx.2.1 hbx.2.2 _).mono ?_
      rintro e W3 ⟨v3, rfl, hb3, hv3, ho3⟩
      have hoB := step_append_kept ho hb3
      have hB3 := hB.trans (hb3.mono hNr)
      have hN3 := Nat.le_trans hNr hb3.size
      obtain ⟨g3, cap3, rfl, hg3⟩ := row_shape ho3 hv3
      have hc3 : ∀ (j : Nat) (u : Value), (U (recB o a s))[j]? = some u → W3.cell? ((⟨g3, 0, none⟩ : Addr).add j) = some u := by
        intro j u hj
        obtain ⟨b', o', h1, _, h2⟩ := HoldsC.ofRow ho3 j u hj
        simp only [Option.some.injEq, Addr.mk.injEq, and_true] at h1
        obtain ⟨rfl, rfl⟩ := h1
        have hadd : (⟨g3, 0, none⟩ : Addr).add j = ⟨g3, 0 + j, none⟩ := by unfold Addr.add; split <;> simp_all
        rw [hadd]
        exact h2
      have h1c : ∀ u ∈ U (recB o a s), u.oneCell' = true := by
        intro u hu
        simp only [U, List.mem_map] at hu
        obtain ⟨y, _, rfl⟩ := hu
        rfl
      have hlt3 := hoB.lt
      clear ho hB hb3 ho3 c0 c1 c2
      go_wp2_with (at_builtin; refine wpList_append_own _ rfl _ _ 58 rfl N1 5 i1 (.int .u8 0) 1 1 Tryz.underlying58 ji jz0 jz1 jz2 rfl (by decide) u7 (13 * k) (U (flatR (L.take k))) rfl hoB ⟨g3, 0, none⟩ 13 cap3 (U (recB o a s)) rfl rfl hc3 h1c ?c1 ?c2 ?c3 ?_)
      case c1 => unfold maxLen; omega
      case c2 => omega
      case c3 => exact hN3
      intro v4 W4 ho4 hg4 _
      have hB4 := hB3.grown hg4 hN3 (fun k hk => (hlt3 k hk).1)
      have hN4 := Nat.le_trans hN3 hg4.size
      rw [U_append] at ho4
      obtain ⟨d0, d2⟩ := HCL.out W4 hB4
      have hro : Hid (W4.ownsRow N1 5 1 v4 (13 * (k + 1)) (U (flatR (L.take (k + 1))))) := by
        show World.ownsRow ..
        rw [hst.out]
        exact ho4
      clear hoB hB3 hN3 hc3 h1c hlt3 hg4 HCL ho4 hst
      generalize owL (L.take k) = cc at eO ⊢
      have hcc : Hid (max 6 (cc.getD 0) = max 6 (cc.getD 0)) := rfl
      cases o
      · have eN : Hid (max 6 ((owL (L.take (k + 1))).getD 0) = max 6 (cc.getD 0)) := by
          show _ = _
          rw [eO.out]; rfl
        clear eO hcc
        generalize max 6 (cc.getD 0) = t at eN ⊢
        go_wp2
        go_roundw
        case rel => exact ⟨k + 1, by omega, by go_num, by rw [eN.out], hro.out, hB4, hN4⟩
        case measure => simp [intOf]; omega
      · have eN : Hid (max 6 ((owL (L.take (k + 1))).getD 0) = max (max 6 (cc.getD 0)) s) := by
          show _ = _
          rw [eO.out]
          simp only [stepO, if_true, Option.getD_some]
          omega
        clear eO hcc
        generalize max 6 (cc.getD 0) = t at eN ⊢
        by_cases hts : t < s
        · have eN' : Hid (max 6 ((owL (L.take (k + 1))).getD 0) = s) := by
            show _ = _
            rw [eN.out]; omega
          clear eN
          go_wp2
          go_roundw
          case rel => exact ⟨k + 1, by omega, by go_num, by rw [eN'.out], hro.out, hB4, hN4⟩
          case measure => simp [intOf]; omega
        · have eN' : Hid (max 6 ((owL (L.take (k + 1))).getD 0) = t) := by
            show _ = _
            rw [eN.out]; omega
          clear eN
          go_wp2
          go_roundw
          case rel => exact ⟨k + 1, by omega, by go_num, by rw [eN'.out], hro.out, hB4, hN4⟩
          case measure => simp [intOf]; omega
    · obtain rfl : k = n + 1 := by omega
      have hxs : L.take (n + 1) = L := List.take_of_length_le (by rw [hn2.out]; omega)
      have hmost : Hid (max 6 ((owL (L.take (n + 1))).getD 0) = (owL L).getD 0) := by
        show _ = _
        rw [hxs]; omega
      rw [hxs] at ho
      rw [hmost.out]
      have hbx := flatR_b hb1
      have hxl := flatR_length L
      rw [hn2.out] at hxl
      have hjn : Hid (jl (flatR L) = L.map norm) := jl_all L
      have hjb : RBd (jl (flatR L)) := by rw [hjn.out]; exact RBd_norm hb1
      have hjl : (jl (flatR L)).length ≤ 50000 := by rw [hjn.out, List.length_map, hn2.out]; omega
      have hjo : Hid ((owL (jl (flatR L))).getD 0 = (owL L).getD 0) := by
        show _ = _
        rw [hjn.out, owL_norm]
      have hgu := own_u32 hb1
      generalize (owL L).getD 0 = g0 at h6 hjo hgu ⊢
      generalize flatR L = xs at ho hbx hxl hjb hjl hjo hjn
      rw [← hxl] at ho
      have hr2 := rest_row ho hbx
      have hx0 : 0 < xs.length := by omega
      have hx1 : xs.length ≤ 100000 := by omega
      have hbw : Below w.heap.size w wr := hB1.trans ((show Below W1.heap.size W1 wr by rw [hN1'.out]; exact hB).mono hB1.size)
      have HN := (show Hid _ from NewNode_boot 1 100 ⟨by decide, by decide⟩ (by decide) u7 xs wr hr2 hx0 hx1 hjb hjl ⟨by decide, by decide⟩)
      have hwz := hbw.size
      clear hxs hk hlt hi hz0 hz1 hz2 hxl hmost ho hr2 hbx hjb hjl hjn hx0 hx1 hL1 hB hNr hB1 hb1
      go_wp2_with fail
      refine Calls.mono HN.out ?_
      rintro e w2 ⟨N, x, M, ff, gg, A, f, sz, sj, rfl, hboot, hn2', hsz, hlow, hb2⟩
      clear HN
      simp only [outV]
      have hbw2 := hbw.trans (hb2.mono hbw.size)
      have hbA : Below w2.heap.size w2 (w2.alloc (.cells #[.string sj, .bool true, .slice none 0 0, .slice none 0 0, .slice none 0 0] 52)) := (Below.refl _ _).alloc (Nat.le_refl _) _
      have hn3 := hn2'.later hbA
      have hbw3 := hbw2.trans (hbA.mono hbw2.size)
      have hC := heap_alloc_new w2 (.cells #[.string sj, .bool true, .slice none 0 0, .slice none 0 0, .slice none 0 0] 52)
      go_upto_region 13 with (fail)
      generalize World.alloc _ _ = W3 at hn3 hbw3 hC ⊢
      generalize w2.heap.size = C at hC ⊢
      have q1 : W3.cell? ⟨C, 1, none⟩ = some (.bool true) := cell_of_row _ _ 1 _ _ _ hC
      have q2 : W3.cell? ⟨C, 2, none⟩ = some (.slice none 0 0) := cell_of_row _ _ 2 _ _ _ hC
      clear hn2' hb2 hbw2 hbA hC
      go_wp2_with fail
      have hseq : x.seq = gr g0 := by rw [hboot.seq, hjo.out]
      have hgq : U32 (gr g0) := gr_u32 hgu
      have hQ0 : QInv w N M ff A f (gr g0) 0 x gg sz W3 := ⟨hn3, hboot.lk, hboot.self, hseq, by rw [hboot.own, hseq], by rw [hboot.sil]; decide, hboot.cnt0, hboot.cnt, by omega, fun j hj => Nat.le_trans hwz (hlow j hj), hbw3⟩
      have hdead : ∀ y ∈ A, y.valid = false := by
        obtain ⟨out, _, hA⟩ := hboot.tab
        rw [hA]
        exact nwL_dead 1 out
      have hagain : newsP (gr g0) (gr g0) f A = (f, []) := by
        rw [hboot.news, hseq]
        exact newsP_again hn3.tb.asc
      refine Calls.mono (Seq_any N x W3 hn3 hboot.lk) ?_
      rintro e w4 ⟨rfl, hn4, hf4⟩
      have hbw4 : Below w.heap.size w w4 := hbw3.trans (hf4.toBelow hbw3.size (fun j hj h => by have := hQ0.low j h; omega))
      have hQ : QInv w N M ff A f (gr g0) 0 x gg sz w4 := ⟨hn4, hQ0.lk, hQ0.self, hQ0.seq, hQ0.own, hQ0.sil, hQ0.cnt0, hQ0.cnt, hQ0.size, hQ0.low, hbw4⟩
      rw [hseq]
      clear hQ0 hn3 hn4 hf4 hbw3 hbw4 hboot hlow hseq q1 q2 hjo hbw hwz
      have hq1 : g0 < 4294967295 → g0 < gr g0 := by unfold gr; omega
      generalize gr g0 = q at hQ hgq hagain hq1 ⊢
      go_upto_region 16 with (fail)
      go_cut [96] from 90 to 95 (fun c W => c = .bool false ∧ W = w4)
      case first =>
        by_cases hg : g0 < 4294967295
        · have e2 : ¬ q ≤ g0 := by have := hq1 hg; omega
          clear hq1
          go_wp2_with fail
          go_meet
          exact ⟨rfl, rfl⟩
        · by_cases e2 : q ≤ g0
          · clear hq1
            go_wp2_with fail
            go_meet
            exact ⟨rfl, rfl⟩
          · clear hq1
            go_wp2_with fail
            go_meet
            exact ⟨rfl, rfl⟩
      case rest =>
        obtain ⟨rfl, rfl⟩ := hcut
        clear hq1 h6 hgu
        go_wp2_with fail
        go_loopw [14] (fun i wr => ∃ (k : Nat) (x' : NdV) (gg' : Int → Value) (sz' : Nat), k ≤ m ∧ i = .int .i64 k ∧ QInv w N M ff A f q k x' gg' sz' wr) (fun i _ => m - (intOf i).toNat)
        case atStart => exact ⟨0, x, gg, sz, Nat.zero_le _, rfl, hQ⟩
        case round =>
          clear hQ
          obtain ⟨k, x', gg', sz', hk, rfl, hQ⟩ := hrel
          by_cases hlt : k < m
          · have hki : (k : Int) < (m : Int) := by omega
            obtain ⟨s, hs⟩ : ∃ s, F[k]? = some s := ⟨_, List.getElem?_eq_getElem (by omega)⟩
            have hat : (F.map Value.string)[k]? = some (.string s) := by rw [List.getElem?_map, hs]; rfl
            obtain ⟨b, o, rfl, _, d0⟩ := (hFs.below hQ.below) k _ hat
            clear hat hs
            by_cases h65 : 65536 < s.size
            · have h65i : (65536 : Int) < (s.size : Int) := by omega
              go_wp2
              go_roundw
              case rel => exact ⟨k + 1, x', gg', sz', by omega, by go_num, hQ.step⟩
              case measure => simp [intOf]; omega
            · have h65i : ¬ (65536 : Int) < (s.size : Int) := by omega
              obtain ⟨cap, W5, hcv, hb5, hvb⟩ := conv_vb s (by omega) wr
              have hQ5 := hQ.later hb5
              have hbs := hb5.size
              obtain ⟨now, hnw, now0, now1⟩ := wait_now hwt
              have hnw' := (show Hid _ from hnw)
              clear hnw
              go_wp2_with fail
              rw [hnw'.out]
              refine Calls.mono (Receive_silent N x' now 2 _ (strNums s) W5 hvb hQ5.nd hQ5.lk (expL_dead hdead now) (by rw [hQ5.seq, hQ5.own]; exact hagain) (by rw [hQ5.seq, hQ5.own]; exact mxO_self q) (by rw [hQ5.seq]; exact hgq) hQ5.cnt0 (by have := hQ5.cnt; omega) (by have := hQ5.size; omega) ⟨by omega, by omega⟩ (by have := hQ5.sil; omega) (by decide) (by rw [hQ5.self]; decide)) ?_
              rintro e w6 ⟨x6, fs, r, af, kf, ac, kc, ad, kd, gg6, sz6, rfl, hS, hn6, hs6, hr6, hlo6, hf6⟩
              have hsm := hS.same
              have hQ6 : QInv w N M ff A f q (k + 1) x6 gg6 sz6 w6 :=
                ⟨hn6, by rw [hsm.2.2.2.2.2.2]; exact hQ5.lk, by rw [hsm.1]; exact hQ5.self, by rw [hsm.2.1]; exact hQ5.seq, by rw [hsm.2.2.1]; exact hQ5.own, hS.sil hQ5.sil now0, by rw [hsm.2.2.2.2.2.1]; exact hQ5.cnt0, by rw [hsm.2.2.2.2.2.1]; exact hQ5.cnt, by have := hQ5.size; omega, fun j hj => hQ5.low j (hlo6 j hj), hQ5.below.trans (hf6.toBelow hQ5.below.size (fun j hj h => by have := hQ5.low j h; omega))⟩
              have hfr := hS.frame hn6.tb.ok
              have hfl := hS.len
              clear hQ hQ5 hvb hb5 hbs hS hsm hn6 hs6 hlo6 hf6 hcv d0 hnw'
              simp only [outV]
              have hbA : Below w6.heap.size w6 (w6.alloc (.cells #[.string ⟨#[]⟩, .bool false, .slice af fs.length kf, .slice ac 0 kc, .slice ad 1 kd] 52)) := (Below.refl _ _).alloc (Nat.le_refl _) _
              have hQ7 := hQ6.later hbA
              have hC7 := heap_alloc_new w6 (.cells #[.string ⟨#[]⟩, .bool false, .slice af fs.length kf, .slice ac 0 kc, .slice ad 1 kd] 52)
              have hr7 := HoldsC.ofRowV (step_append_kept hr6 hbA)
              clear hQ6 hr6 hbA
              go_upto_region 23 with (fail)
              generalize World.alloc _ _ = W7 at hQ7 hC7 hr7 ⊢
              generalize w6.heap.size = C7 at hC7 ⊢
              go_wp2_with fail
              go_loopw [16] (fun j wj => ∃ h : Nat, h ≤ fs.length ∧ j = .int .i64 h ∧ Below W7.heap.size W7 wj) (fun j _ => fs.length - (intOf j).toNat)
              case atStart => exact ⟨0, Nat.zero_le _, rfl, Below.refl _ _⟩
              case round =>
                obtain ⟨h, hh, rfl, hbj⟩ := hrel
                have hCj := (hbj.block C7 (Array.getElem?_eq_some_iff.1 hC7).1).trans hC7
                have hrj := hr7.below hbj
                have t2 : wr.cell? ⟨C7, 2, none⟩ = some (.slice af fs.length kf) := cell_of_row _ _ 2 _ _ _ hCj
                have t3 : wr.cell? ⟨C7, 3, none⟩ = some (.slice ac 0 kc) := cell_of_row _ _ 3 _ _ _ hCj
                by_cases hhl : h < fs.length
                · have hhi : (h : Int) < (fs.length : Int) := by omega
                  obtain ⟨z, hz⟩ : ∃ z, fs[h]? = some z := ⟨_, List.getElem?_eq_getElem hhl⟩
                  obtain ⟨d, sq, hd, hsq, rfl⟩ := hfr z (List.mem_of_getElem? hz)
                  have hat : ∀ i u, i < 2 → ([.int .u32 2, .string (lsB [(d, sq)])] : List Value)[i]? = some u → (FrC fs)[h * 2 + i]? = some u := fun i u hi hu => (flat_at (fun x : Int × ByteArray => ([Value.int .u32 x.1, Value.string x.2] : List Value)) 2 (by decide) (fun _ => rfl) fs h i hi hz).trans hu
                  obtain ⟨bf, off, rfl, _⟩ := hrj (h * 2 + 0) _ (hat 0 _ (by decide) rfl)
                  have r0 := hrj.one rfl (hat 0 _ (by decide) rfl)
                  have r1 := hrj.one rfl (hat 1 _ (by decide) rfl)
                  rw [Nat.add_zero] at r0
                  rw [← Nat.add_assoc] at r1
                  obtain ⟨hisF, ⟨y0, yr, hyy⟩, hls⟩ := lsB_frame hd hsq
                  generalize lsB [(d, sq)] = fb at r1 hisF hyy hls
                  obtain ⟨cap8, W8, hcv, hb8, hvb8⟩ := conv_vb fb hls wr
                  clear hat hz hrj hCj
                  go_wp2_with fail
                  refine Calls.mono (Decode_any _ (strNums fb) W8 hvb8.1) ?_
                  rintro e w9 ⟨hb9, hdc⟩
                  rcases hdc with ⟨_, v9, rfl, x0, x1, x2, x3, x4, rr, la, lc, hxs, hv9, _⟩ | ⟨hF0, _⟩
                  · have hk3 : ({ pkOf x0 x1 x2 x4 rr with la := la, lc := lc } : Pkt).kind = 3 := by
                      rw [hyy] at hxs
                      simp only [List.cons.injEq] at hxs
                      rw [← hxs.2.1]
                      rfl
                    generalize ({ pkOf x0 x1 x2 x4 rr with la := la, lc := lc } : Pkt) = p at hv9 hk3
                    subst hv9
                    obtain ⟨pt, pk, ph, pu, pid, pd, pds, pf, pfs, pl, pla, pln, plc, pp⟩ := p
                    dsimp only at hk3
                    subst hk3
                    have hb89 := hbj.trans ((hb8.trans (hb9.mono hb8.size)).mono hbj.size)
                    have hb10 := hb89.alloc hb89.size (Pkt.box ⟨pt, 3, ph, pu, pid, pd, pds, pf, pfs, pl, pla, pln, plc, pp⟩)
                    have hC10 := (hb10.block C7 (Array.getElem?_eq_some_iff.1 hC7).1).trans hC7
                    have hr10 := hr7.below hb10
                    have r10 : ((w9.alloc (Pkt.box ⟨pt, 3, ph, pu, pid, pd, pds, pf, pfs, pl, pla, pln, plc, pp⟩)).cell? ⟨bf, off + h * 2, none⟩) = some (.int .u32 2) := (World.cell?_of_block (a := ⟨bf, off + h * 2, none⟩) (((hb8.trans (hb9.mono hb8.size)).alloc (Nat.le_trans hb8.size hb9.size) (Pkt.box ⟨pt, 3, ph, pu, pid, pd, pds, pf, pfs, pl, pla, pln, plc, pp⟩)).block bf (World.block_lt_of_cell? _ _ r0))).trans r0
                    have hP := PB.new ⟨pt, 3, ph, pu, pid, pd, pds, pf, pfs, pl, pla, pln, plc, pp⟩ w9
                    clear hb8 hb9 hb89 r0 r1 hcv hvb8 t2 t3 hr10
                    unfold PB at hP
                    dsimp only [Pkt.box] at hb10 hC10 r10 hP
                    dsimp only [Pkt.val]
                    go_upto_region 27 with (fail)
                    generalize World.alloc _ _ = W10 at hb10 hC10 r10 hP ⊢
                    generalize w9.heap.size = Cp at hP ⊢
                    have t2 : W10.cell? ⟨C7, 2, none⟩ = some (.slice (some ⟨bf, off, none⟩) fs.length kf) := cell_of_row _ _ 2 _ _ _ hC10
                    have p1 : W10.cell? ⟨Cp, 1, none⟩ = some (.int .i64 3) := cell_of_row _ _ 1 _ _ _ hP
                    clear hC10 hP
                    go_wp2
                    go_roundw
                    case rel => exact ⟨h + 1, by omega, by go_num, hb10⟩
                    case measure => simp [intOf]; omega
                  · rw [hisF] at hF0
                    cases hF0
                · have hhe : h = fs.length := by omega
                  subst hhe
                  have hQj := hQ7.later hbj
                  clear hCj hrj hQ7
                  go_wp2
                  go_roundw
                  case rel => exact ⟨k + 1, x6, gg6, sz6, by omega, by go_num, hQj⟩
                  case measure => simp [intOf]; omega
          · have hke : k = m := by omega
            subst hke
            have hdd := hdead
            clear hagain hgq
            go_wp2_with fail
            refine Calls.mono (Routes_any N x' wr hQ.nd hQ.lk) ?_
            rintro e w6 ⟨ao6, c6, L6, rfl, hL6, hH6, hn6, hf6⟩
            have hbw6 : Below w.heap.size w w6 := hQ.below.trans (hf6.toBelow hQ.below.size (fun j hj h => by have := hQ.low j h; omega))
            have hA8 := hn6.tb.len
            clear hQ hn6 hf6
            go_wp2_with fail
            go_loopw [20] (fun j wj => ∃ h : Nat, h ≤ A.length ∧ j = .int .i64 h ∧ Below w6.heap.size w6 wj) (fun j _ => A.length - (intOf j).toNat)
            case atStart => exact ⟨0, Nat.zero_le _, rfl, Below.refl _ _⟩
            case round =>
              obtain ⟨h, hh, rfl, hbj⟩ := hrel
              by_cases hhl : h < A.length
              · have hhi : (h : Int) < (A.length : Int) := by omega
                have hLl : L6.length = A.length := by rw [← hL6]; simp
                obtain ⟨⟨yy, u⟩, hp⟩ : ∃ p, L6[h]? = some p := ⟨_, List.getElem?_eq_getElem (by omega)⟩
                have hx : A[h]? = some yy := by rw [← hL6, List.getElem?_map, hp]; rfl
                have hyd := hdd yy (List.mem_of_getElem? hx)
                have hat := fun {i : Nat} (hi : i < 7) => RtC_at hp hi
                rw [rtC_six, hyd] at hat
                have hHj := hH6.below hbj
                obtain ⟨bf, off, rfl, _⟩ := hHj (h * 7 + 0) _ (hat (i := 0) (by decide))
                have r4 := hHj.one rfl (hat (i := 4) (by decide))
                rw [← Nat.add_assoc] at r4
                clear hat hHj hLl hp hx
                go_wp2
                go_roundw
                case rel => exact ⟨h + 1, by omega, by go_num, hbj⟩
                case measure => simp [intOf]; omega
              · have hhe : h = A.length := by omega
                subst hhe
                have hfin := hbw6.trans (hbj.mono hbw6.size)
                go_wp2
                go_ret
                exact ⟨rfl, hfin⟩
end Go.Proofs.YtakaadcpaeiccabGreat
