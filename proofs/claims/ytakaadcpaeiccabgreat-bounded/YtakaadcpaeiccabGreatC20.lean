import Derived.Test.YtakaadcpaeiccabGreatC19
import Derived.Test.YtakaadcpaeiccabGreatC15
import Derived.Test.YtakaadcpaeiccabGreatC06
import Derived.Test.YtakaadcpaeiccabGreatC18
namespace Go.Proofs.YtakaadcpaeiccabGreat
open Go.RowKit Go.Maps

set_option maxRecDepth 100000 in
set_option maxHeartbeats 2000000 in
theorem loseOne_any (N B base : Nat) (x : NdV) (a : AcV) {M : Nat} {ff : Int → Option Nat} {gg : Int → Value} {A : List Rt} {f : Int → Option Int} {sz : Nat} (nws : List (Bool × Int × Int)) (frs cms : List (Int × ByteArray)) (drs : List Int) (tt d : Int) (hd : U32 d) (w : World) (hn : NdM N x M ff gg A f sz w) (ha : AcM B base a nws frs cms drs w) (hbs : base ≤ w.heap.size) (hfl : frs.length ≤ 1000000) :
    Calls Tryz.prog 129 #[.pointer (some ⟨N, 0, none⟩), .pointer (some ⟨B, 0, none⟩), .int .u32 tt, .int .u32 d] w fun e w' => ∃ v7, e = .returned (.tuple #[]) ∧ AcM B base { a with frm := v7 } nws (frs ++ [(tt, lsB [(d, numL A d)])]) cms drs w' ∧ Fx (AcIn B a) w w' := by
  have hs : U32 (numL A d) := by
    unfold numL
    cases hl : lineOf A d with
    | none => exact ⟨by simp, by simp⟩
    | some y => exact (hn.tb.ok y (lineOf_some hl).1).seq
  have HL := (show Hid _ from nlost_any N x hn d hd)
  have HS : Hid (∀ w1, Below w.heap.size w w1 → Calls Tryz.prog 137 #[.pointer (some ⟨B, 0, none⟩), .int .u32 tt, .slice (some ⟨w1.heap.size, 0, none⟩) 1 1] (w1.alloc (.cells #[.int .u32 d, .int .u32 (numL A d)] 237)) fun e w' => ∃ v7, e = .returned (.tuple #[]) ∧ AcM B base { a with frm := v7 } nws (frs ++ [(tt, lsB [(d, numL A d)])]) cms drs w' ∧ Fx (AcIn B a) w w') := by
    intro w1 hb
    have hb2 : Below w.heap.size w (w1.alloc (.cells #[.int .u32 d, .int .u32 (numL A d)] 237)) := hb.alloc hb.size _
    have hH : HoldsA (w1.alloc (.cells #[.int .u32 d, .int .u32 (numL A d)] 237)) (some ⟨w1.heap.size, 0, none⟩) [(d, numL A d)] := by
      intro j hj
      have hj0 : j = 0 := by simpa using hj
      subst hj0
      have hC := heap_alloc_new w1 (.cells #[.int .u32 d, .int .u32 (numL A d)] 237)
      unfold U32 at hd hs
      exact ⟨w1.heap.size, 0, d, numL A d, rfl, by simp, rfl, hd.1, by omega, hs.1, by omega, cell_of_row _ _ 0 _ _ _ hC, cell_of_row _ _ 1 _ _ _ hC⟩
    refine (lose_any B base a nws frs cms drs tt (some ⟨w1.heap.size, 0, none⟩) 1 [(d, numL A d)] _ (ha.later hb2) (Nat.le_trans hbs hb2.size) hfl (by simp) hH).mono ?_
    rintro e w' ⟨v7, rfl, h1, h2⟩
    exact ⟨v7, rfl, h1, (Fx.below (S := AcIn B a) hb2).trans h2 (fun _ _ h => h)⟩
  clear hn ha
  go_enter Tryz.func129, Tryz.ntmps129
  go_wp2_with fail
  refine Calls.mono HL.out ?_
  rintro e w1 ⟨rfl, hb1⟩
  go_wp2_with fail
  refine Calls.mono (HS.out w1 hb1) ?_
  rintro e w' ⟨v7, rfl, h1, h2⟩
  go_wp2
  go_returns
  exact ⟨v7, rfl, h1, h2⟩

/-- The blocks of a node. -/
def NdIn (N : Nat) (x : NdV) (M : Nat) (ff : Int → Option Nat) (gg : Int → Value) (A : List Rt) (k : Nat) : Prop := k = N ∨ k = x.Mo ∨ TIn x.T M ff gg A k
def acZ (now : Int) : AcV := ⟨now, .slice none 0 0, ⟨#[]⟩, false, .slice none 0 0, .slice none 0 0, .slice none 0 0⟩
theorem AcM.zero (now : Int) (W : World) : AcM W.heap.size (W.heap.size + 1) (acZ now) [] [] [] [] (W.alloc (acBox (acZ now))) :=
  ⟨heap_alloc_new _ _, ⟨rfl, .inl ⟨rfl, rfl⟩⟩, ⟨rfl, .inl ⟨rfl, rfl⟩⟩, ⟨rfl, .inl ⟨rfl, rfl⟩⟩, ⟨rfl, .inl ⟨rfl, rfl⟩⟩⟩

set_option maxRecDepth 100000 in
set_option maxHeartbeats 2000000 in
theorem begin_any (N : Nat) (x : NdV) {M : Nat} {ff : Int → Option Nat} {gg : Int → Value} {A : List Rt} {f : Int → Option Int} {sz : Nat} (now : Int) (w : World) (hn : NdM N x M ff gg A f sz w) (hcnt : 0 ≤ x.cnt ∧ x.cnt ≤ 1000000) (hsz : sz ≤ 1000000) :
    Calls Tryz.prog 51 #[.pointer (some ⟨N, 0, none⟩), .int .u64 now] w fun e w' => ∃ gg' v7 sz', e = .returned (.pointer (some ⟨w.heap.size, 0, none⟩)) ∧ NdM N { x with own := mxO x.seq x.own, cnt := x.cnt + (newsP x.seq x.own f (expL A now)).2.length } M ff gg' (expL A now) (newsP x.seq x.own f (expL A now)).1 sz' w' ∧ sz' ≤ sz + 8 ∧ AcM w.heap.size (w.heap.size + 1) { acZ now with wrt := v7 } (newsP x.seq x.own f (expL A now)).2 [] [] [] w' ∧ (∀ k, NdIn N x M ff gg' (expL A now) k → NdIn N x M ff gg A k) ∧ Fx (NdIn N x M ff gg A) w w' := by
  have hb0 : Below w.heap.size w (w.alloc (acBox (acZ now))) := (Below.refl _ _).alloc (Nat.le_refl _) _
  have hn1 := hn.later hb0
  have ha1 := AcM.zero now w
  have hlt : ∀ k, NdIn N x M ff gg A k → k < w.heap.size := by
    rintro k (rfl | rfl | hk)
    · exact hn.nd.lt
    · exact hn.mo.lt
    · exact hn.tb.lt hk
  have HE : Hid (Calls Tryz.prog 76 #[.pointer (some ⟨x.T, 0, none⟩), .int .u64 now] (w.alloc (acBox (acZ now))) fun e w2 => ∃ gg', e = .returned (.tuple #[]) ∧ NdM N x M ff gg' (expL A now) f sz w2 ∧ AcM w.heap.size (w.heap.size + 1) (acZ now) [] [] [] [] w2 ∧ (∀ k, TIn x.T M ff gg' (expL A now) k → TIn x.T M ff gg A k) ∧ Fx (NdIn N x M ff gg A) w w2 ∧ w.heap.size + 1 ≤ w2.heap.size) := by
    refine (Expire_any (S := TIn x.T M ff gg A) now hn1.tb (fun _ h => h) (fun k hk => hn1.tb.lt hk)).mono ?_
    rintro e w2 ⟨gg', rfl, h2, h3, h4⟩
    refine ⟨gg', rfl, ⟨hn1.nd.block (h4.block _ hn1.nd.lt fun hk => ?_), hn1.mo.block (h4.block _ hn1.mo.lt fun hk => ?_), h2, hn.ne⟩, ha1.kept fun k hk => h4.block _ (ha1.lt hk) fun hk2 => ?_, h3, (Fx.below (S := NdIn N x M ff gg A) hb0).trans h4 (fun i _ h => .inr (.inr h)), ?_⟩
    · exact hn1.tb.not (fun e => by
        obtain ⟨D, ⟨es, cl, hm, _⟩, _⟩ := hn1.tb.map
        rw [← e, show (w.alloc (acBox (acZ now))).heap[N]? = _ from hn1.nd] at hm
        cases hm) hn1.nd (nd_offT x) hk
    · obtain ⟨es, cl, hm⟩ := hn1.mo.obj
      exact hn1.tb.not (Ne.symm hn1.ne) hm (map_offT es cl) hk
    · obtain ⟨o, p1, p2, _, p4⟩ := ha1.offT hk
      exact hn1.tb.not (fun e => by
        obtain ⟨D, ⟨es, cl, hm, _⟩, _⟩ := hn1.tb.map
        rw [← e, p1] at hm
        exact p4 _ _ (Option.some.inj hm)) p1 p2 hk2
    · have := h4.size
      simp at this
      omega
  have hc5 := hn1.nd.cell.2.2.2.2.1
  clear hb0 ha1
  dsimp only [acBox, acZ] at HE hc5
  go_enter Tryz.func51, Tryz.ntmps51
  go_wp2_with fail
  refine Calls.mono HE.out ?_
  rintro e w2 ⟨gg', rfl, hn2, ha2, ht2, hf2, hs2⟩
  clear HE hc5 hn1
  go_wp2_with fail
  refine Calls.mono (write_any N w.heap.size (w.heap.size + 1) x _ M ff gg' (expL A now) f sz [] [] [] [] w2 hn2 ha2 hs2 hcnt hsz (by simp)) ?_
  rintro e w3 ⟨v7, sz', rfl, k1, k2, k3, k4⟩
  rw [List.nil_append] at k3
  go_wp2
  go_ret
  refine ⟨gg', v7, sz', rfl, k1, k2, k3, ?_, hf2.trans k4 ?_⟩
  · rintro k (h | h | h)
    · exact .inl h
    · exact .inr (.inl h)
    · exact .inr (.inr (ht2 k h))
  · rintro k hk (h | h | h)
    · exact .inl h
    · exact .inr (.inl h)
    · exfalso
      rcases h with h | h | h | h | h
      · omega
      · cases h
      · cases h
      · cases h
      · cases h
end Go.Proofs.YtakaadcpaeiccabGreat

namespace Go.Proofs.YtakaadcpaeiccabGreat
open Go.RowKit

set_option maxRecDepth 100000 in
set_option maxHeartbeats 2000000 in
theorem greatestOwn_any (ao : Option Addr) (n c : Nat) (L : List (Bool × Int × Int)) (hL : L.length = n) (hn : n ≤ 1000000) (_hbd : RBd L) (w : World) (hA : HoldsC w ao (RC L)) :
    Calls Tryz.prog 43 #[.slice ao n c] w fun e w' => e = .returned (.int .u32 ((owL L).getD 0)) ∧ Below w.heap.size w w' := by
  go_enter Tryz.func43, Tryz.ntmps43
  go_wp2_with fail
  go_loopw [3, 8] (fun q i wr => ∃ k : Nat, k ≤ n ∧ i = .int .i64 k ∧ q = .int .u32 ((owL (L.take k)).getD 0) ∧ Below w.heap.size w wr) (fun _ i _ => n - (intOf i).toNat)
  case atStart => exact ⟨0, Nat.zero_le _, rfl, rfl, Below.refl _ _⟩
  case round =>
    obtain ⟨k, hk, rfl, rfl, hb⟩ := hrel
    by_cases hlt : k < n
    · have hki : (k : Int) < (n : Int) := by omega
      obtain ⟨x, hx⟩ : ∃ x, L[k]? = some x := ⟨_, List.getElem?_eq_getElem (by omega)⟩
      have hat : ∀ i z, i < 3 → ([.bool x.1, .int .u32 x.2.1, .int .u32 x.2.2] : List Value)[i]? = some z → (RC L)[k * 3 + i]? = some z := fun i z hi hz => (flat_at (fun x : Bool × Int × Int => ([Value.bool x.1, Value.int .u32 x.2.1, Value.int .u32 x.2.2] : List Value)) 3 (by decide) (fun _ => rfl) L k i hi hx).trans hz
      have hA' := hA.below hb
      obtain ⟨b1, o1, rfl, hj1⟩ := hA' (k * 3 + 0) _ (hat 0 _ (by decide) rfl)
      have d0 := hA'.one rfl (hat 0 _ (by decide) rfl)
      have d1 := hA'.one rfl (hat 1 _ (by decide) rfl)
      have d2 := hA'.one rfl (hat 2 _ (by decide) rfl)
      have eO : Hid (owL (L.take (k + 1)) = stepO (owL (L.take k)) x) := by
        show _ = _
        rw [take_snocR hx, owL_snoc]
      obtain ⟨xo, xa, xs⟩ := x
      dsimp only at d0 d1 d2
      rw [Nat.add_zero] at d0
      rw [← Nat.add_assoc] at d1 d2
      have hb1 := hb.alloc hb.size (recBox xo xa xs)
      clear hj1 hat hA' hx hb
      generalize owL (L.take k) = cc at eO ⊢
      dsimp only [recBox] at hb1
      cases xo
      · have eO' : Hid ((owL (L.take (k + 1))).getD 0 = cc.getD 0) := by
          show _ = _
          rw [eO.out]; rfl
        clear eO
        generalize cc.getD 0 = t at eO' ⊢
        go_wp2
        go_roundw
        case rel => exact ⟨k + 1, by omega, by go_num, by rw [eO'.out], hb1⟩
        case measure => simp [intOf]; omega
      · have eO' : Hid ((owL (L.take (k + 1))).getD 0 = max (cc.getD 0) xs) := by
          show _ = _
          rw [eO.out]; rfl
        clear eO
        generalize cc.getD 0 = t at eO' ⊢
        go_wp2
        go_roundw
        case rel => exact ⟨k + 1, by omega, by go_num, by rw [eO'.out], hb1⟩
        case measure => simp [intOf]; omega
    · obtain rfl : k = n := by omega
      rw [List.take_of_length_le (by omega)]
      go_wp2
      go_ret
      exact ⟨rfl, hb⟩

set_option maxRecDepth 100000 in
set_option maxHeartbeats 4000000 in
theorem journalText_any (ao : Option Addr) (n c : Nat) (L : List (Bool × Int × Int)) (hL : L.length = n) (hn : n ≤ 100000) (hbd : RBd L) (w : World) (hA : HoldsC w ao (RC L)) :
    Calls Tryz.prog 73 #[.slice ao n c] w fun e w' => e = .returned (.string (strOfNums (flatR L))) ∧ Below w.heap.size w w' := by
  obtain ⟨i1, ji, jz0, jz1, jz2⟩ := info_parts info_u8
  have hb0 : Below w.heap.size w w := Below.refl _ _
  go_enter Tryz.func73, Tryz.ntmps73
  go_wp2_with fail
  go_loopw [3, 8] (fun bv i wr => ∃ k : Nat, k ≤ n ∧ i = .int .i64 k ∧ wr.ownsRow w.heap.size 5 1 bv (13 * k) (U (flatR (L.take k))) ∧ Below w.heap.size w wr) (fun _ i _ => n - (intOf i).toNat)
  case atStart => exact ⟨0, Nat.zero_le _, rfl, ⟨rfl, .inl ⟨rfl, rfl⟩⟩, hb0⟩
  case round =>
    clear hb0
    obtain ⟨k, hk, rfl, ho, hb⟩ := hrel
    by_cases hlt : k < n
    · have hki : (k : Int) < (n : Int) := by omega
      obtain ⟨⟨o, a, s⟩, hx⟩ : ∃ x, L[k]? = some x := ⟨_, List.getElem?_eq_getElem (by omega)⟩
      have hbx := hbd _ (List.mem_of_getElem? hx)
      dsimp only at hbx
      have hLr := hA.below hb
      have hat : ∀ i z, i < 3 → ([.bool o, .int .u32 a, .int .u32 s] : List Value)[i]? = some z → (RC L)[k * 3 + i]? = some z := fun i z hi hz => (flat_at (fun x : Bool × Int × Int => ([Value.bool x.1, Value.int .u32 x.2.1, Value.int .u32 x.2.2] : List Value)) 3 (by decide) (fun _ => rfl) L k i hi hx).trans hz
      obtain ⟨b1, o1, rfl, hj1⟩ := hLr (k * 3 + 0) _ (hat 0 _ (by decide) rfl)
      have c0 := hLr.one rfl (hat 0 _ (by decide) rfl)
      have c1 := hLr.one rfl (hat 1 _ (by decide) rfl)
      have c2 := hLr.one rfl (hat 2 _ (by decide) rfl)
      rw [Nat.add_zero] at c0
      rw [← Nat.add_assoc] at c1 c2
      have hst : Hid (flatR (L.take (k + 1)) = flatR (L.take k) ++ recB o a s) := by
        show _ = _
        rw [List.take_add_one, hx, flatR_append]
        rfl
      have hbA : Below wr.heap.size wr (wr.alloc (recBox o a s)) := (Below.refl _ _).alloc (Nat.le_refl _) _
      have hB1 := RBk.new o a s wr
      have ho1 := step_append_kept ho hbA
      have hb1 := hb.alloc hb.size (recBox o a s)
      dsimp only [recBox] at hB1 ho1 hb1
      clear hj1 hat hLr hx hb ho hbA
      go_upto_region 5 with (fail)
      generalize wr.heap.size = B1 at hB1 ⊢
      generalize World.alloc _ _ = W1 at hB1 ho1 hb1 ⊢
      obtain ⟨d0, d1, d2⟩ := hB1.cell
      clear c0 c1 c2
      go_wp2_with fail
      refine (WriteRecord_any o a s hbx.1.1 hbx.1.2 hbx.2.1 hbx.2.2 _).mono ?_
      rintro e W3 ⟨v3, rfl, hb3, hv3, ho3⟩
      have hoB := step_append_kept ho1 hb3
      have hB3 := hb1.trans (hb3.mono hb1.size)
      obtain ⟨g3, cap3, rfl, hg3⟩ := row_shape ho3 hv3
      have hc3 : ∀ (j : Nat) (u : Value), (U (recB o a s))[j]? = some u → W3.cell? ((⟨g3, 0, none⟩ : Addr).add j) = some u := by
        intro j u hj
        obtain ⟨b', o', h1, _, h2⟩ := HoldsC.ofRow ho3 j u hj
        simp only [Option.some.injEq, Addr.mk.injEq, and_true] at h1
        obtain ⟨rfl, rfl⟩ := h1
        have hadd : (⟨g3, 0, none⟩ : Addr).add j = ⟨g3, 0 + j, none⟩ := by unfold Addr.add; split <;> simp_all
        rw [hadd]
        exact h2
      have h1c : ∀ u ∈ U (recB o a s), u.oneCell' = true := by
        intro u hu
        simp only [U, List.mem_map] at hu
        obtain ⟨y, _, rfl⟩ := hu
        rfl
      have hlt3 := hoB.lt
      clear ho1 hb1 hb3 ho3 d0 d1 d2 hB1
      go_wp2_with (at_builtin; refine wpList_append_own _ rfl _ _ 58 rfl w.heap.size 5 i1 (.int .u8 0) 1 1 Tryz.underlying58 ji jz0 jz1 jz2 rfl (by decide) u3 (13 * k) (U (flatR (L.take k))) rfl hoB ⟨g3, 0, none⟩ 13 cap3 (U (recB o a s)) rfl rfl hc3 h1c ?c1 ?c2 ?c3 ?_)
      case c1 => unfold maxLen; omega
      case c2 => omega
      case c3 => exact hB3.size
      intro v4 W4 ho4 hg4 _
      have hB4 := hB3.grown hg4 hB3.size (fun k hk => (hlt3 k hk).1)
      rw [U_append] at ho4
      clear hoB hB3 hc3 h1c hlt3 hg4
      go_wp2
      go_roundw
      case rel =>
        refine ⟨k + 1, by omega, by go_num, ?_, hB4⟩
        rw [hst.out]
        exact ho4
      case measure => simp [intOf]; omega
    · obtain rfl : k = n := by omega
      rw [List.take_of_length_le (by omega)] at ho
      have hxl := flatR_length L
      rw [hL] at hxl
      rw [← hxl] at ho
      have hcv := conv_rest (rest_row ho (flatR_b hbd))
      clear ho hxl
      go_wp2
      go_ret
      exact ⟨rfl, hb⟩
end Go.Proofs.YtakaadcpaeiccabGreat

namespace Go.Proofs.YtakaadcpaeiccabGreat
open Go.RowKit Go.Maps

theorem newsP_bd {q own : Int} (hq : U32 q) (f : Int → Option Int) {A : List Rt} (hA : ∀ y ∈ A, y.Ok) : RBd (newsP q own f A).2 := by
  have h : ∀ (A : List Rt) (st : (Int → Option Int) × List (Bool × Int × Int)), (∀ y ∈ A, y.Ok) → RBd st.2 → RBd (A.foldl nwsS st).2 := by
    intro A
    induction A with
    | nil => intro st _ h; exact h
    | cons y A ih =>
      intro st hA h
      rw [List.foldl_cons]
      refine ih _ (fun z hz => hA z (List.mem_cons_of_mem _ hz)) ?_
      unfold nwsS
      split
      · intro z hz
        rcases List.mem_append.1 hz with hz | hz
        · exact h z hz
        · rw [List.mem_singleton] at hz
          subst hz
          have := hA y (List.mem_cons_self ..)
          have h1 := this.dest
          have h2 := this.seq
          unfold U32 at h1 h2
          dsimp only
          omega
      · exact h
  refine h A _ hA ?_
  unfold nwsO
  split
  · intro z hz
    rw [List.mem_singleton] at hz
    subst hz
    unfold U32 at hq
    dsimp only
    omega
  · intro z hz
    simp at hz
theorem RBd_append {a b : List (Bool × Int × Int)} (ha : RBd a) (hb : RBd b) : RBd (a ++ b) := fun x hx => (List.mem_append.1 hx).elim (ha x) (hb x)

@[reducible] def outZ : Obj := .cells #[.string ⟨#[]⟩, .bool false, .slice none 0 0, .slice none 0 0, .slice none 0 0] 52
/-- What a node has done in a call, as it comes out. -/
def outV (s : ByteArray) (rep : Bool) (frm cam drp : Value) : Value := .agg #[.string s, .bool rep, frm, cam, drp]

end Go.Proofs.YtakaadcpaeiccabGreat

namespace Go.Proofs.YtakaadcpaeiccabGreat

/-! A node as plain data, and what it does. -/

/-- What a node remembers of a request. -/
structure Mm where
  fr : Int
  id : Int
  til : Int
  trn : Int
def Mm.key (e : Mm) : Int × Int := (e.fr, e.id)
def seenHas (E : List Mm) (q : Int × Int) (now : Int) : Bool := E.any fun e => decide (e.key = q) && decide (now < e.til)
def seenPut (E : List Mm) (q : Int × Int) (til trn : Int) : List Mm := E.filter (fun e => !decide (e.key = q)) ++ [⟨q.1, q.2, til, trn⟩]
def seenAdd (E : List Mm) (q : Int × Int) (til trn : Int) : List Mm := if 16 < (seenPut E q til trn).length then (seenPut E q til trn).tail else seenPut E q til trn

/-- A search: 'out': its request went out. -/
structure Sr where
  dest : Int
  txt : List ByteArray
  ttl : Int
  ret : Nat
  due : Int
  id : Int
  out : Bool

/-- A node, and what it does in one call. -/
structure St where
  me : Int
  seq : Int
  sil : Int
  lreq : Int
  ldat : Int
  A : List Rt
  mem : List Mm
  tn : Int
  f : Int → Option Int
  own : Int
  cnt : Int
  Q : List Sr
  tl : Int
  pc : List Int
  now : Int
  nws : List (Bool × Int × Int)
  frs : List (Int × ByteArray)
  cms : List (Int × ByteArray)
  drs : List Int
  rep : Bool
  lk : Int

namespace St
def write (s : St) : St := { s with f := (newsP s.seq s.own s.f s.A).1, own := mxO s.seq s.own, cnt := s.cnt + (newsP s.seq s.own s.f s.A).2.length, nws := s.nws ++ (newsP s.seq s.own s.f s.A).2 }
def drop (s : St) (r : Int) : St := { s with drs := s.drs ++ [r] }
def send (s : St) (t : Int) (p : Pkt) (L : List (Int × Int)) : St := { s with frs := s.frs ++ [(t, strOfNums (encX p L))] }
def lose (s : St) (t : Int) (L : List (Int × Int)) : St := { s with frs := s.frs ++ lsF t L }
def loseOne (s : St) (t d : Int) : St := s.lose t [(d, numL s.A d)]
def begin (s : St) (now : Int) : St := { s with now := now, A := expL s.A now, nws := [], frs := [], cms := [], drs := [], rep := false }.write
/-- The compact journal. -/
def cmp (s : St) : List (Bool × Int × Int) := ownP (some s.own) ++ othP s.f (s.A.map (·.dest))
def finish (s : St) : St :=
  if s.write.cnt > 24 then { s.write with nws := s.write.cmp, cnt := s.write.cmp.length, rep := true } else s.write
/-- What comes out as the journal. -/
def jrn (s : St) : ByteArray := strOfNums (flatR s.nws)

def far (h : Int) : Int := min (h + 1) 255
/-- A reply to who asked. -/
def answer (s : St) (p : Pkt) : St :=
  if (findL s.A p.frm s.now).2 then s.send (findL s.A p.frm s.now).1.next { p with ttl := 8, kind := 2 } [] else s.drop 3
def repP (hops d q fm life : Int) : Pkt := ⟨0, 0, hops, false, 0, d, q, fm, 0, life, none, 0, 0, ⟨#[]⟩⟩
def answerSelf (s : St) (p : Pkt) : St := { s with seq := max s.seq p.dseq }.answer (repP 0 s.me (max s.seq p.dseq) p.frm 6000)
def answerOther (s : St) (p : Pkt) (r : Rt) : St :=
  { s with A := befL (if (findL s.A p.frm s.now).2 then befL s.A p.dest (findL s.A p.frm s.now).1.next else s.A) p.frm r.next }.answer (repP r.hops p.dest r.seq p.frm ((r.exp - s.now) % 4294967296))
def askOn (s : St) (p : Pkt) : St :=
  s.send 0 { p with ttl := p.ttl - 1, hops := far p.hops, dseq := if (lineOf s.A p.dest).isSome then max p.dseq (numL s.A p.dest) else p.dseq, unk := if (lineOf s.A p.dest).isSome then false else p.unk } []
def asked (s : St) (p : Pkt) : St :=
  if p.dest = s.me then s.answerSelf p
  else if (findL s.A p.dest s.now).2 && (p.unk || decide ((findL s.A p.dest s.now).1.seq ≥ p.dseq)) then s.answerOther p (findL s.A p.dest s.now).1
  else if p.ttl = 1 then s.drop 4 else s.askOn p
/-- A request that is new: the route to who asks, and what is asked for. -/
def learn (s : St) (fr : Int) (p : Pkt) : St :=
  if (updL s.me s.A p.frm p.fseq (far p.hops) fr (s.now + 3000)).2 = 4 then { s with A := (updL s.me s.A p.frm p.fseq (far p.hops) fr (s.now + 3000)).1 }.drop 2
  else if (updL s.me s.A p.frm p.fseq (far p.hops) fr (s.now + 3000)).2 = 3 then { s with A := useL (updL s.me s.A p.frm p.fseq (far p.hops) fr (s.now + 3000)).1 p.frm (s.now + 3000) }.asked p
  else { s with A := (updL s.me s.A p.frm p.fseq (far p.hops) fr (s.now + 3000)).1 }.asked p
def hearRequest (s : St) (fr : Int) (p : Pkt) : St :=
  if p.frm = s.me ∨ seenHas s.mem (p.frm, p.id) s.now then s.drop 1
  else { s with mem := seenAdd s.mem (p.frm, p.id) (s.now + 1280) s.tn, tn := s.tn + 1 }.learn fr p

def datP (i d me : Int) (t : ByteArray) : Pkt := ⟨8, 9, 0, false, i, d, 0, me, 0, 0, none, 0, 0, t⟩
/-- A text of one's own goes out, if there is a route. -/
def sendText (s : St) (d : Int) (t : ByteArray) : St :=
  if (findL s.A d s.now).2 then { s with ldat := (s.ldat + 1) % 4294967296, A := useL s.A d (s.now + 3000) }.send (findL s.A d s.now).1.next (datP ((s.ldat + 1) % 4294967296) d s.me t) []
  else s
def srOf (Q : List Sr) (d : Int) : Option Sr := Q.find? fun q => decide (q.dest = d)
/-- All that waits goes out, if there is a route. -/
def sendAll (s : St) (d : Int) : St :=
  match srOf s.Q d with
  | none => s
  | some q => if (findL s.A d s.now).2 then { q.txt.foldl (fun s t => s.sendText d t) s with Q := s.Q.filter fun z => !decide (z.dest = d) } else s

def replyOn (s : St) (fr : Int) (p : Pkt) : St :=
  if (findL s.A p.frm s.now).2 then
    { s with A := useL (befL (befL s.A p.dest (findL s.A p.frm s.now).1.next) p.frm fr) p.frm (s.now + 3000) }.send (findL s.A p.frm s.now).1.next { p with ttl := p.ttl - 1, hops := far p.hops } []
  else s.drop 3
def hearReply (s : St) (fr : Int) (p : Pkt) : St :=
  if p.dest = s.me then s.drop 1
  else
    let u := updL s.me s.A p.dest p.dseq (far p.hops) fr (s.now + p.life)
    let s := { s with A := u.1 }
    if u.2 = 4 then s.drop 2
    else if p.frm = s.me then (if u.2 = 3 then (s.sendAll p.dest).drop 7 else s.sendAll p.dest)
    else if p.ttl = 1 then s.drop 4
    else s.replyOn fr p

/-- What a list of losses does to a table: the table, whether a line has ended, what is told on. -/
def lsS (fr : Int) (z : List Rt × Bool × List (Int × Int)) (l : Int × Int) : List Rt × Bool × List (Int × Int) :=
  if loseB z.1 fr l.1 then (loseL z.1 fr l.1 l.2, true, if ((lineOf z.1 l.1).any fun y => decide (0 < y.bef.length)) then z.2.2 ++ [(l.1, numL (loseL z.1 fr l.1 l.2) l.1)] else z.2.2) else z
def hearLose (s : St) (fr : Int) (L : List (Int × Int)) : St :=
  let z := L.foldl (lsS fr) (s.A, false, [])
  let s := { s with A := z.1 }
  (if z.2.1 then s else s.drop 7).lose 0 z.2.2
def growF (y : Rt) : Rt := { y with seq := gr y.seq }
def hearData (s : St) (fr : Int) (p : Pkt) : St :=
  if p.dest = s.me then { s with cms := s.cms ++ [(p.frm, p.pay)] }
  else if p.ttl = 1 then s.drop 4
  else if (findL s.A p.dest s.now).2 then { s with A := useL (useL s.A p.dest (s.now + 3000)) p.frm (s.now + 3000) }.send (findL s.A p.dest s.now).1.next { p with ttl := p.ttl - 1 } []
  else { s.drop 3 with A := modL s.A p.dest growF }.loseOne fr p.dest
def hearSilent (s : St) (fr : Int) (p : Pkt) : St :=
  if p.kind = 9 ∧ p.dest ≠ s.me then { (s.drop 8).loseOne fr p.dest with sil := s.now + 2000 } else s.drop 8
def hearPkt (s : St) (fr : Int) (p : Pkt) (L : List (Int × Int)) : St :=
  if s.now < s.sil then s.hearSilent fr p
  else if p.kind = 1 then s.hearRequest fr p
  else if p.kind = 2 then s.hearReply fr p
  else if p.kind = 3 then s.hearLose fr L
  else s.hearData fr p
def hear (s : St) (fr : Int) (xs : List Int) : St :=
  if isF xs = false ∨ fr = 0 ∨ fr = s.me then s.drop 0
  else s.hearPkt fr (pkOf (xs.getD 0 0) (xs.getD 1 0) (xs.getD 2 0) (xs.getD 4 0) (xs.drop 5)) (lsOf (xs.getD 1 0) (xs.getD 4 0) (xs.drop 5))
def receive (s : St) (now fr : Int) (xs : List Int) : St := ((s.begin now).hear fr xs).finish
def broken (s : St) (now nxt : Int) : St :=
  let s := s.begin now
  ({ s with A := s.A.map (loseF nxt 0) }.lose 0 (brkL nxt s.A)).finish

/-- Whether a request may not go out, and why. -/
def full (pc : List Int) (now : Int) : Bool := decide (pc.length = 5) && (decide (now < 1000) || decide (pc.getD 0 0 > now - 1000))
def pcAdd (pc : List Int) (now : Int) : List Int := (if pc.length = 5 then pc.tail else pc) ++ [now]
def reqP (ttl : Int) (unk : Bool) (i d q me sq : Int) : Pkt := ⟨ttl, 1, 0, unk, i, d, q, me, sq, 0, none, 0, 0, ⟨#[]⟩⟩
/-- A request goes out. -/
def request (s : St) (d ttl : Int) : St :=
  let s1 := { s with seq := gr s.seq, lreq := (s.lreq + 1) % 4294967296 }.write
  { s1 with pc := pcAdd s1.pc s1.now, mem := seenAdd s1.mem (s1.me, s1.lreq) (s1.now + 1280) s1.tn, tn := s1.tn + 1 }.send 0 (reqP ttl (!(lineOf s1.A d).isSome) s1.lreq d (numL s1.A d) s1.me s1.seq) []
/-- A search put in its place. -/
def setQ (Q : List Sr) (q : Sr) : List Sr := Q.map fun z => if z.dest = q.dest then q else z
def ask (s : St) (q : Sr) : St :=
  if full s.pc s.now then let s := s.drop 9; { s with tl := s.tl + 1, Q := setQ s.Q { q with due := s.now + 1000, id := s.tl + 1, out := false } }
  else if s.now < s.sil then let s := s.drop 8; { s with tl := s.tl + 1, Q := setQ s.Q { q with due := s.now + 1000, id := s.tl + 1, out := false } }
  else let s := s.request q.dest q.ttl; { s with tl := s.tl + 1, Q := setQ s.Q { q with due := s.now + 80 * (q.ttl + 2) * 2 ^ q.ret, id := s.tl + 1, out := true } }
def newQ (d : Int) (t : ByteArray) : Sr := ⟨d, [t], 1, 0, 0, 0, false⟩
/-- A text waits. -/
def hold (s : St) (q : Sr) (t : ByteArray) : St × Sr :=
  if q.txt.length = 4 then (s.drop 6, { q with txt := q.txt.tail ++ [t] }) else (s, { q with txt := q.txt ++ [t] })
def await (s : St) (d : Int) (t : ByteArray) : St :=
  match srOf s.Q d with
  | some q => { (s.hold q t).1 with Q := setQ s.Q (s.hold q t).2 }
  | none => { s with Q := s.Q ++ [newQ d t] }.ask (newQ d t)
/-- 'Send' where it isn't refused. -/
def sends (s : St) (now d : Int) (t : ByteArray) : St :=
  let s := s.begin now
  (if (findL s.A d s.now).2 then s.sendText d t else s.await d t).finish
def endQ (s : St) (d : Int) : St := { s with Q := s.Q.filter fun z => !decide (z.dest = d) }
def widen (s : St) (q : Sr) : St :=
  if q.ttl + 2 ≤ 5 then s.ask { q with ttl := q.ttl + 2 }
  else if q.ttl < 8 then s.ask { q with ttl := 8 }
  else if q.ret < 2 then s.ask { q with ret := q.ret + 1 }
  else { s with drs := s.drs ++ List.replicate q.txt.length 5 }.endQ q.dest
/-- The time of a search has come. -/
def step (s : St) (q : Sr) : St :=
  if (findL s.A q.dest s.now).2 then s.sendAll q.dest
  else if q.out then s.widen q else s.ask q
/-- Those whose time has come, in the order of the times. -/
def ordQ (a b : Sr) : Bool := decide (a.due < b.due) || (decide (a.due = b.due) && decide (a.id ≤ b.id))
def dueQ (Q : List Sr) (now : Int) : List Sr := (Q.filter fun q => decide (q.due ≤ now)).mergeSort ordQ
def tick (s : St) (now : Int) : St :=
  let s := s.begin now
  ((dueQ s.Q now).foldl step s).finish
end St
end Go.Proofs.YtakaadcpaeiccabGreat

namespace Go.Proofs.YtakaadcpaeiccabGreat
open Go.RowKit Go.Maps

/-- What a node remembers, in memory. -/
structure SnM (Ms : Nat) (tn : Int) (E : List Mm) (W : World) : Prop where
  map : ∃ g, MapQ W Ms g E.length ∧ (∀ e ∈ E, g e.key = some (e.til, e.trn)) ∧ ∀ k m, QOk k → g k = some m → ∃ e ∈ E, e.key = k ∧ m = (e.til, e.trn)
  ok : ∀ e ∈ E, QOk e.key ∧ 0 ≤ e.til ∧ 0 ≤ e.trn ∧ e.trn < tn
  asc : E.Pairwise fun a b => a.til ≤ b.til ∧ a.trn < b.trn ∧ a.key ≠ b.key
  len : E.length ≤ 16
  tn0 : 0 ≤ tn
theorem SnM.block {Ms : Nat} {tn : Int} {E : List Mm} {W W' : World} (h : SnM Ms tn E W) (he : W'.heap[Ms]? = W.heap[Ms]?) : SnM Ms tn E W' := by
  obtain ⟨⟨g, h1, h2, h3⟩, h4, h5, h6, h7⟩ := h
  exact ⟨⟨g, h1.block he, h2, h3⟩, h4, h5, h6, h7⟩
theorem SnM.lt {Ms : Nat} {tn : Int} {E : List Mm} {W : World} (h : SnM Ms tn E W) : Ms < W.heap.size := by
  obtain ⟨g, h1, _⟩ := h.map
  exact h1.lt
theorem SnM.obj {Ms : Nat} {tn : Int} {E : List Mm} {W : World} (h : SnM Ms tn E W) : ∃ es cl, W.heap[Ms]? = some (.map es cl) := by
  obtain ⟨g, h1, _⟩ := h.map
  exact h1.obj
theorem SnM.made (w : World) : SnM w.heap.size 0 [] (w.alloc (.map #[] 0)) :=
  ⟨⟨_, MapQ.made w, fun e he => by simp at he, fun k m _ h => by cases h⟩, fun e he => by simp at he, List.Pairwise.nil, by simp, by simp⟩
/-- What the map answers. -/
theorem SnM.has_eq {Ms : Nat} {tn : Int} {E : List Mm} {W : World} {g : Int × Int → Option (Int × Int)} (_h : SnM Ms tn E W) (h2 : ∀ e ∈ E, g e.key = some (e.til, e.trn)) (h3 : ∀ k m, QOk k → g k = some m → ∃ e ∈ E, e.key = k ∧ m = (e.til, e.trn)) {q : Int × Int} (hq : QOk q) {now : Int} (hn : 0 ≤ now) :
    decide (now < ((g q).getD (0, 0)).1) = seenHas E q now := by
  unfold seenHas
  cases hg : g q with
  | none =>
    simp only [Option.getD_none]
    rw [decide_eq_false (by omega)]
    symm
    rw [List.any_eq_false]
    intro e he hc
    simp only [Bool.and_eq_true, decide_eq_true_eq] at hc
    have := h2 e he
    rw [hc.1, hg] at this
    cases this
  | some m =>
    obtain ⟨e, he, hk, rfl⟩ := h3 q m hq hg
    simp only [Option.getD_some]
    by_cases hlt : now < e.til
    · rw [decide_eq_true hlt]
      symm
      rw [List.any_eq_true]
      exact ⟨e, he, by simp [hk, hlt]⟩
    · rw [decide_eq_false hlt]
      symm
      rw [List.any_eq_false]
      intro e' he' hc
      simp only [Bool.and_eq_true, decide_eq_true_eq] at hc
      have h4 := h2 e' he'
      rw [hc.1, hg] at h4
      simp only [Option.some.injEq, Prod.mk.injEq] at h4
      omega

@[reducible] def qBox (q : Int × Int) : Obj := .cells #[.int .u32 q.1, .int .u32 q.2] 261
@[reducible] def mBox (m : Int × Int) : Obj := .cells #[.int .u64 m.1, .int .i64 m.2] 279
set_option maxRecDepth 100000 in
set_option maxHeartbeats 1000000 in
theorem mahead_any (a b : Int × Int) (w : World) :
    Calls Tryz.prog 196 #[encM a, encM b] w fun e w' => e = .returned (.bool (if a.1 = b.1 then decide (a.2 < b.2) else decide (a.1 < b.1))) ∧ Below w.heap.size w w' := by
  obtain ⟨a1, a2⟩ := a
  obtain ⟨b1, b2⟩ := b
  have hB : Below w.heap.size w ((w.alloc (mBox (a1, a2))).alloc (mBox (b1, b2))) := ((Below.refl _ _).alloc (Nat.le_refl _) _).alloc (by simp) _
  dsimp only [mBox] at hB
  dsimp only [encM]
  by_cases h : a1 = b1
  · subst h
    have e : (a1 != a1) = false := by simp
    rw [if_pos rfl]
    go_enter Tryz.func196, Tryz.ntmps196
    go_wp2
    all_goals (go_ret; exact ⟨rfl, hB⟩)
  · have e : (a1 != b1) = true := by simpa using h
    rw [if_neg h]
    go_enter Tryz.func196, Tryz.ntmps196
    go_wp2
    all_goals (go_ret; exact ⟨rfl, hB⟩)

theorem fd_til (a b : Int) (w : World) : (Instr.field 279 (.agg #[.int .u64 a, .int .i64 b]) 0).run Tryz.prog w = .ok (.int .u64 a) w := by kernel_rfl
set_option maxRecDepth 100000 in
set_option maxHeartbeats 2000000 in
theorem seen_has (N : Nat) (x : NdV) (E : List Mm) (q : Int × Int) (hq : QOk q) (now : Int) (hn : 0 ≤ now) (w : World) (hN : NdB N x w) (hs : SnM x.Ms x.tn E w) :
    Calls Tryz.prog 160 #[.pointer (some ⟨N, 8, none⟩), encQ q, .int .u64 now] w fun e w' => e = .returned (.bool (seenHas E q now)) ∧ Below w.heap.size w w' := by
  obtain ⟨g, h1, h2, h3⟩ := hs.map
  have hE := (show Hid _ from hs.has_eq h2 h3 hq hn)
  have hb0 : Below w.heap.size w (w.alloc (qBox q)) := (Below.refl _ _).alloc (Nat.le_refl _) _
  have hC := heap_alloc_new w (qBox q)
  have hN1 := hN.later hb0
  have hg1 := h1.block (hb0.block _ h1.lt)
  clear hs hN h1 h2 h3
  dsimp only [qBox] at hb0 hC hN1 hg1
  dsimp only [encQ]
  go_enter Tryz.func160, Tryz.ntmps160
  go_upto_region 1 with (fail)
  generalize World.alloc _ _ = W1 at hb0 hC hN1 hg1 ⊢
  generalize w.heap.size = C at hC ⊢
  obtain ⟨n0, n2, n3, n4, n5, n6, n7, n8, n9, n10⟩ := hN1.cell
  have c0 : W1.cell? ⟨C, 0, none⟩ = some (.int .u32 q.1) := cell_of_row _ _ 0 _ _ _ hC
  have c1 : W1.cell? ⟨C, 1, none⟩ = some (.int .u32 q.2) := cell_of_row _ _ 1 _ _ _ hC
  have hl0 := hg1.look hq
  have hl1 := (show MapQ W1.drew _ _ _ from hg1).look hq
  have hbq : Hid (∀ k, Below w.heap.size w (W1.drewN k)) := fun k => below_drewN hb0 k
  dsimp only [encQ] at hl0 hl1
  generalize hv : (g q).getD (0, 0) = m at hE hl0 hl1
  clear hv hg1 hN1 hC hb0
  dsimp only [encM] at hl0 hl1
  have hfd := fun w => fd_til m.1 m.2 w
  have hbd : Below w.heap.size w W1.drew := hbq.out 1
  go_region
  go_wp2
  go_ret
  exact ⟨ret_bool hE.out, hbd⟩

def aheadM (a b : Mm) : Prop := if a.til = b.til then a.trn < b.trn else a.til < b.til
/-- What is known of the least one among those that the walk has met. -/
def FirI (E : List Mm) (left : Lit → Bool) (an : Bool) (f l : Int × Int) : Prop :=
  if an then ∃ e ∈ E, left (qLit e.key) = false ∧ f = e.key ∧ l = (e.til, e.trn) ∧ ∀ z ∈ E, left (qLit z.key) = false → ¬ aheadM z e
  else ∀ e ∈ E, left (qLit e.key) = true
theorem FirI.done {e0 : Mm} {E : List Mm} {left : Lit → Bool} {an : Bool} {f l : Int × Int} (h : FirI (e0 :: E) left an f l) (hl : ∀ kl, left kl = false) (ha : (e0 :: E).Pairwise fun a b => a.til ≤ b.til ∧ a.trn < b.trn ∧ a.key ≠ b.key) : f = e0.key := by
  unfold FirI at h
  split at h
  · obtain ⟨e, he, _, rfl, _, h⟩ := h
    rcases List.mem_cons.1 he with rfl | he
    · rfl
    · exfalso
      refine h e0 (List.mem_cons_self ..) (hl _) ?_
      have := (List.pairwise_cons.1 ha).1 e he
      unfold aheadM
      split <;> omega
  · have := h e0 (List.mem_cons_self ..)
    rw [hl] at this
    cases this
theorem FirI.yes {E : List Mm} (hE : ∀ e ∈ E, QOk e.key) (hu : E.Pairwise fun a b => a.til ≤ b.til ∧ a.trn < b.trn ∧ a.key ≠ b.key) {left : Lit → Bool} {an : Bool} {f l : Int × Int} (h : FirI E left an f l) {e : Mm} (he : e ∈ E) (hq : left (qLit e.key) = true) (hb : an = true → (if e.til = l.1 then e.trn < l.2 else e.til < l.1)) :
    FirI E (fun z => left z && !z.sameKey (qLit e.key)) true e.key (e.til, e.trn) := by
  have hkey : ∀ z ∈ E, qLit z.key = qLit e.key → z = e := by
    intro z hz hq
    have hk := qLit_inj (hE z hz) (hE e he) hq
    by_cases hze : z = e
    · exact hze
    · exfalso
      obtain ⟨i, hi, rfl⟩ := List.mem_iff_getElem.1 hz
      obtain ⟨j, hj, rfl⟩ := List.mem_iff_getElem.1 he
      rcases Nat.lt_trichotomy i j with hij | hij | hij
      · exact (List.pairwise_iff_getElem.1 hu i j hi hj hij).2.2 hk
      · subst hij; exact hze rfl
      · exact (List.pairwise_iff_getElem.1 hu j i hj hi hij).2.2 hk.symm
  unfold FirI at h ⊢
  rw [if_pos rfl]
  refine ⟨e, he, by simp [qLit, Lit.sameKey], rfl, rfl, fun z hz hl => ?_⟩
  by_cases hze : qLit z.key = qLit e.key
  · rw [hkey z hz hze]
    unfold aheadM
    simp
  · have hlz : left (qLit z.key) = false := by
      cases hc : left (qLit z.key) with
      | false => rfl
      | true =>
        exfalso
        dsimp only at hl
        rw [hc, Bool.true_and] at hl
        have : (qLit z.key).sameKey (qLit e.key) = true := by simpa using hl
        exact hze (by simpa [qLit, Lit.sameKey] using this)
    cases han : an with
    | false =>
      rw [han] at h
      have := h z hz
      rw [hlz] at this
      cases this
    | true =>
      rw [han, if_pos rfl] at h
      obtain ⟨e1, he1, _, _, rfl, h⟩ := h
      have h1 := h z hz hlz
      have h2 := hb han
      unfold aheadM at h1 ⊢
      dsimp only at h2
      intro h3
      apply h1
      split at h3 <;> split at h2 <;> split <;> omega
theorem FirI.no {E : List Mm} (hE : ∀ e ∈ E, QOk e.key) (hu : E.Pairwise fun a b => a.til ≤ b.til ∧ a.trn < b.trn ∧ a.key ≠ b.key) {left : Lit → Bool} {f l : Int × Int} (h : FirI E left true f l) {e : Mm} (he : e ∈ E) (hb : ¬ (if e.til = l.1 then e.trn < l.2 else e.til < l.1)) :
    FirI E (fun z => left z && !z.sameKey (qLit e.key)) true f l := by
  unfold FirI at h ⊢
  rw [if_pos rfl] at h ⊢
  obtain ⟨e1, he1, hl1, rfl, rfl, h⟩ := h
  refine ⟨e1, he1, by simp [hl1], rfl, rfl, fun z hz hl => ?_⟩
  by_cases hlz : left (qLit z.key) = false
  · exact h z hz hlz
  · have hc : left (qLit z.key) = true := by simpa using hlz
    dsimp only at hl
    rw [hc, Bool.true_and] at hl
    have : (qLit z.key).sameKey (qLit e.key) = true := by simpa using hl
    have hk := qLit_inj (hE z hz) (hE e he) (by simpa [qLit, Lit.sameKey] using this)
    have hze : z = e := by
      by_cases hze : z = e
      · exact hze
      · exfalso
        obtain ⟨i, hi, rfl⟩ := List.mem_iff_getElem.1 hz
        obtain ⟨j, hj, rfl⟩ := List.mem_iff_getElem.1 he
        rcases Nat.lt_trichotomy i j with hij | hij | hij
        · exact (List.pairwise_iff_getElem.1 hu i j hi hj hij).2.2 hk
        · subst hij; exact hze rfl
        · exact (List.pairwise_iff_getElem.1 hu j i hj hi hij).2.2 hk.symm
    rw [hze]
    unfold aheadM
    exact hb
end Go.Proofs.YtakaadcpaeiccabGreat
