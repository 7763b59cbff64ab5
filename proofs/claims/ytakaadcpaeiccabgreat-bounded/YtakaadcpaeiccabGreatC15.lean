import Derived.Test.YtakaadcpaeiccabGreatC14
import Derived.Test.YtakaadcpaeiccabGreatC07
import Derived.Test.YtakaadcpaeiccabGreatC06
namespace Go.Proofs.YtakaadcpaeiccabGreat
open Go.RowKit Go.Sort

set_option maxRecDepth 100000 in
set_option maxHeartbeats 4000000 in
theorem sort_any (base g cap n : Nat) (d : Array Int) (w : World) (h : SR base g cap n d w) (hn : n ≤ 1000000) :
    Calls Tryz.prog 140 #[.slice (some ⟨g, 0, none⟩) n cap] w (PQ base g cap n 0 n d w) := by
  go_enter Tryz.func140, Tryz.ntmps140
  go_wp2_with fail
  refine (len_any n hn _).mono ?_
  rintro e w1 ⟨r, rfl, hr, _, rfl⟩
  have hp := pdq_any n base g cap n 0 n r d _ (by omega) h (Nat.zero_le _) (Nat.le_refl _) hn (by omega) (.inl rfl)
  have HP := (show Hid _ from hp)
  clear hp
  go_wp2_with fail
  refine Calls.mono HP.out ?_
  rintro e w2 ⟨rfl, d', h', hp, hs, hg⟩
  clear HP
  go_wp2
  go_returns
  exact ⟨rfl, d', h', hp, hs, hg⟩

set_option maxRecDepth 100000 in
set_option maxHeartbeats 4000000 in
theorem insertion_nil (w : World) :
    Calls Tryz.prog 183 #[.slice none 0 0, .int .i64 0, .int .i64 0] w fun e w' => e = .returned (.tuple #[]) ∧ w.grownBy w' none := by
  go_enter Tryz.func183, Tryz.ntmps183
  go_wp2_with fail
  go_loopw [6] (fun vi wr => vi = .int .i64 1 ∧ w.grownBy wr none) (fun _ _ => 0)
  case atStart => exact ⟨rfl, grn_rfl _ _⟩
  case round =>
    obtain ⟨rfl, hg⟩ := hrel
    go_wp2
    go_returns
    exact ⟨rfl, hg⟩
set_option maxRecDepth 100000 in
set_option maxHeartbeats 4000000 in
theorem pdq_nil (r : Nat) (w : World) :
    Calls Tryz.prog 172 #[.slice none 0 0, .int .i64 0, .int .i64 0, .int .i64 r] w fun e w' => e = .returned (.tuple #[]) ∧ w.grownBy w' none := by
  go_enter Tryz.func172, Tryz.ntmps172
  go_wp2_with fail
  go_loopw [1, 2] (fun va vb wr => va = .int .i64 0 ∧ vb = .int .i64 0 ∧ w.grownBy wr none) (fun _ _ _ => 0)
  case atStart => exact ⟨rfl, rfl, grn_rfl _ _⟩
  case round =>
    obtain ⟨rfl, rfl, hg⟩ := hrel
    go_wp2_with fail
    refine (insertion_nil _).mono ?_
    rintro e w1 ⟨rfl, h1⟩
    go_wp2
    go_returns
    exact ⟨rfl, hg.trans h1⟩
set_option maxRecDepth 100000 in
set_option maxHeartbeats 4000000 in
theorem sort_nil (w : World) :
    Calls Tryz.prog 140 #[.slice none 0 0] w fun e w' => e = .returned (.tuple #[]) ∧ w.grownBy w' none := by
  go_enter Tryz.func140, Tryz.ntmps140
  go_wp2_with fail
  refine (len_any 0 (by omega) _).mono ?_
  rintro e w1 ⟨r, rfl, hr, _, rfl⟩
  go_wp2_with fail
  refine (pdq_nil r _).mono ?_
  rintro e w2 ⟨rfl, hg⟩
  go_wp2
  go_returns
  exact ⟨rfl, hg⟩
end Go.Proofs.YtakaadcpaeiccabGreat

namespace Go.Proofs.YtakaadcpaeiccabGreat
open Go.RowKit Go.Maps Go.Sort

theorem perm_all {d d' : Array Int} {n : Nat} (hd : d.size = n) (h : PermIn 0 n d d') : d'.toList.Perm d.toList := by
  obtain ⟨h1, _, h3⟩ := h
  have e1 : d.extract 0 n = d := by rw [← hd]; simp
  have e2 : d'.extract 0 n = d' := by rw [← hd, ← h1]; simp
  rw [e1, e2] at h3
  exact h3
theorem sorted_all {d : Array Int} {n : Nat} (hd : d.size = n) (h : SortedIn ltInt 0 n d) : d.toList.Pairwise (· ≤ ·) := by
  rw [List.pairwise_iff_getElem]
  intro i j hi hj hij
  have hi' : i < d.size := by simpa using hi
  have hj' : j < d.size := by simpa using hj
  have := h i j (Nat.zero_le _) hij (by omega)
  simp only [ltInt, decide_eq_false_iff_not] at this
  rw [getElem!_pos d j hj', getElem!_pos d i hi'] at this
  simp only [Array.getElem_toList]
  omega

set_option maxRecDepth 100000 in
set_option maxHeartbeats 2000000 in
/-- slices.Sorted, against whatever iterator: a new row that holds what came, ascending. -/
theorem sorted_any (g : Nat) (lb : Array Value) (eg : ∀ args w, (callFunc g args).run Tryz.prog w = .ok (.enter g args) w)
    (S : List Int → Prop) (N : Nat) (hN : N ≤ 1000000) (w : World) (hseq : SeqGives Fence.wide 1 Tryz.prog g lb encU S N w) :
    Calls Tryz.prog 102 #[.func (.func g) #[] lb] w fun e w' => ∃ (v : Value) (ts ss : List Int), e = .returned v ∧ S ss ∧ ts.Perm ss ∧ ts.Pairwise (· ≤ ·) ∧ ts.length ≤ N ∧
      w'.ownsRow w.heap.size 34 1 v ts.length (ts.map encU) ∧ Below w.heap.size w w' := by
  have hc := callsIn_wide.1 (collect_in Fence.wide 3 trivial trivial rfl (Nat.le_refl _) g lb trivial eg _ N (by unfold maxLen; omega) (by omega) w hseq.bounded)
  have HC := (show Hid _ from hc)
  clear hc hseq
  go_enter Tryz.func102, Tryz.ntmps102
  go_wp2_with fail
  refine Calls.mono HC.out ?_
  rintro e W ⟨v, ss, rfl, ⟨hS, hlen⟩, hrow, hnil, hb⟩
  clear HC
  rcases hrow.2 with ⟨rfl, hz⟩ | ⟨gb, cap, cur, rfl, hbase, hgb, r1, r2, r3, r4⟩
  · have hss : ss = [] := List.eq_nil_of_length_eq_zero hz
    subst hss
    go_wp2_with fail
    refine (sort_nil _).mono ?_
    rintro e w2 ⟨rfl, hg⟩
    go_wp2
    go_ret
    refine ⟨.slice none 0 0, [], [], rfl, hS, List.Perm.refl _, List.Pairwise.nil, Nat.zero_le _, ⟨rfl, .inl ⟨rfl, rfl⟩⟩, hb.grown hg hb.size (fun k e => by cases e)⟩
  · have hSR : SR w.heap.size gb cap ss.length ss.toArray W := ⟨by simp, by
      have : UC ss.toArray = ss.map encU := by simp [UC]
      rw [this]; exact hrow⟩
    have hs := sort_any w.heap.size gb cap ss.length ss.toArray W hSR (by omega)
    have HS := (show Hid _ from hs)
    have HB := (show Hid _ from hb)
    clear hs hSR hgb r3 r4 hrow hb
    go_wp2_with fail
    refine Calls.mono HS.out ?_
    rintro e w2 ⟨rfl, d', h', hp, hso, hg⟩
    clear HS
    go_wp2
    go_ret
    have hsz : d'.size = ss.length := h'.size
    have hl : d'.toList.length = ss.length := by simpa using hsz
    have hpa := perm_all (by simp) hp
    refine ⟨_, d'.toList, ss, rfl, hS, by simpa using hpa, sorted_all hsz hso, by omega, ?_, HB.out.grown hg HB.out.size (fun k e => by cases e; exact hbase)⟩
    rw [hl]
    exact h'.row
end Go.Proofs.YtakaadcpaeiccabGreat

namespace Go.Proofs.YtakaadcpaeiccabGreat
open Go.RowKit Go.Maps Go.Sort

set_option maxRecDepth 100000 in
set_option maxHeartbeats 2000000 in
/-- The iterator of maps.Keys over a map of numbers: each key comes once, in some order. -/
theorem rkeys1_in {H : Type} (F : Fence) (n : Nat) (h10 : F.fn 170) (hro : F.round = none) (hn : 1 ≤ n) (l Bm b nn : Nat) (D0 : DataW H) {R : Value → Option (DataW H × List MemPlace)} (J : List Int → World → Prop)
    (hY : ∀ pre x W, J pre W → pre.length < Maps.size D0 → YieldAt F (n - 1) Tryz.prog l #[encU x] W fun e W' => e = .returned (.bool true) ∧ J (pre ++ [x]) W' ∧ KeepsWalks W W')
    (W : World) (hJ : AbidesFrom W.heap.size J) (hm : W.cell? ⟨Bm, 0, none⟩ = some (.map (some b))) (hown : W.ownsMap Tryz.prog 34 R b nn D0) (h0 : J [] W) :
    CallsIn F n Tryz.prog 170 #[.func (.yield l) #[] #[], .pointer (some ⟨Bm, 0, none⟩)] W fun e W' => (∃ v, e = .returned v) ∧ ∃ ss : List Int, KeyList D0 ss ∧ J ss W' := by
  refine callsIn_of_wp Tryz.func170 rfl h10 ?_ hro
  simp only [Tryz.ntmps170, List.size_toArray, List.length_cons, List.length_nil, Nat.reduceAdd, Nat.reduceSub, Array.replicate_succ, Array.replicate_zero, List.push_toArray, List.append_toArray, List.nil_append, List.cons_append]
  gi_wp2_with (first
    | (gi_at_range; refine wpListIn_range_own _ rfl _ 156 rfl 34 161 tu_law Tryz.underlying156 _ b nn _ rfl hown ?_; intro w0 hrg0 hg0 hs0)
    | gi_in)
  go_frame
  gi_loopw [3] (fun _ wr => ∃ (left : Lit → Bool) (cnt : Nat) (ss : List Int), wr.ranges Tryz.prog 34 R b W.heap.size nn D0 left cnt ∧ ss.length + cnt ≤ Maps.size D0 ∧ CollectedU D0 left ss ∧ J ss wr)
    (fun _ wr => wr.rangeLeft b W.heap.size)
  case atStart =>
    exact ⟨_, _, [], hrg0, by simp, CollectedU.start D0, hJ [] W w0 none h0 hg0 (fun r e => by cases e)⟩
  case round =>
    obtain ⟨left, cnt, ss, hrg, hcs, hC, hJs⟩ := hrel
    gi_wp2_with (first
      | (gi_at_next; refine wpListIn_next_ranges _ rfl _ rfl 34 tu_law R encU id (fun key kl hk => by obtain ⟨x, hx, _⟩ := keyOf_u32 Tryz.underlying34 hk; exact ⟨x, hx⟩) (fun v _ _ => ⟨v, rfl⟩) b W.heap.size nn _ _ _ rfl hrg ?_ ?_)
      | gi_in)
    · intro hc0 hl0
      gi_wp2
      go_end0
      exact ⟨⟨_, rfl⟩, ss, hC.keys hl0, hJs⟩
    · intro x c kl yd yp w2 cnt2 hkey hlk hv hat hrg2 hlt hg2 hs2 hen
      obtain ⟨x', ex, rfl, hwf⟩ := keyOf_u32 Tryz.underlying34 hkey
      obtain rfl : x = x' := encU_inj ex
      have hJ2 : J ss w2 := hJ ss wr w2 (some W.heap.size) hJs hg2 (fun r e => by cases e; exact ⟨Nat.le_refl _, hrg.iter_walk⟩)
      obtain ⟨fn, tmps, assign, body, hy, hR⟩ := hY ss x w2 hJ2 (by omega)
      clear hs2
      gi_wp2
      refine hR.mono ?_
      rintro e W3 ⟨rfl, hJ3, hk3⟩
      gi_wp2
      have hrg3 := hrg2.of_walks hk3
      go_roundw
      case rel => exact ⟨_, cnt2, ss ++ [x], hrg3, by simp; omega, hC.step hlk hat hwf, hJ3⟩
      case measure => rw [hrg3.left_eq, hrg.left_eq]; exact hlt

/-- maps.Keys hands back an iterator over the keys. -/
theorem rkeys_gives {H : Type} (F : Fence) (n : Nat) (h10 : F.fn 170) (hro : F.round = none) (hn : 1 ≤ n) (Bm b nn : Nat) (D0 : DataW H) {R : Value → Option (DataW H × List MemPlace)} (w : World) (hBm : Bm < w.heap.size)
    (hm : w.cell? ⟨Bm, 0, none⟩ = some (.map (some b))) (hown : w.ownsMap Tryz.prog 34 R b nn D0) :
    SeqGives F n Tryz.prog 170 #[.pointer (some ⟨Bm, 0, none⟩)] encU (KeyList D0) (Maps.size D0) w := fun l J W hW hJ hY h0 => by
  have hown' : W.ownsMap Tryz.prog 34 R b nn D0 := by
    have hbl := hown.lt
    obtain ⟨es, clock, hb, Ft, hs, hD⟩ := hown
    exact ⟨es, clock, (hW.block b hbl).trans hb, Ft, hs, hD⟩
  exact rkeys1_in F n h10 hro hn l Bm b nn D0 J hY W hJ ((hW.cell (p := ⟨Bm, 0, none⟩) hBm).trans hm) hown' h0
end Go.Proofs.YtakaadcpaeiccabGreat

namespace Go.Proofs.YtakaadcpaeiccabGreat
open Go.RowKit

/-- What both Compacts hand back: the compact list of what counts, in a row of the call's own. -/
def CmpP (L : List (Bool × Int × Int)) (w : World) (e : Ending) (w' : World) : Prop :=
  ∃ v out, e = .returned v ∧ IsCmp (mpL L) (owL L) out ∧ out.length ≤ L.length + 1 ∧ w'.ownsRow w.heap.size 82 3 v out.length (RC out) ∧ Below w.heap.size w w'
theorem take_snocR {L : List (Bool × Int × Int)} {k : Nat} {x : Bool × Int × Int} (h : L[k]? = some x) : L.take (k + 1) = L.take k ++ [x] := by
  obtain ⟨hk, rfl⟩ := List.getElem?_eq_some_iff.1 h
  exact List.take_succ_eq_append_getElem hk

end Go.Proofs.YtakaadcpaeiccabGreat

namespace Go.Proofs.YtakaadcpaeiccabGreat
open Go.RowKit

theorem rows_apart {W : World} {b1 b2 e1 e2 s1 s2 n1 n2 : Nat} {v1 v2 : Value} {x1 x2 : List Value} (h1 : W.ownsRow b1 e1 s1 v1 n1 x1) (h2 : W.ownsRow b2 e2 s2 v2 n2 x2) (hne : e1 ≠ e2) : v1.ownBlock = none ∨ v1.ownBlock ≠ v2.ownBlock := by
  rcases h1.2 with ⟨rfl, _⟩ | ⟨g1, c1, k1, rfl, _, q1, _⟩
  · exact .inl rfl
  · rcases h2.2 with ⟨rfl, _⟩ | ⟨g2, c2, k2, rfl, _, q2, _⟩
    · exact .inr (by simp [Value.ownBlock])
    · refine .inr fun e => ?_
      simp only [Value.ownBlock, Option.some.injEq] at e
      subst e
      rw [q1] at q2
      cases q2
      exact hne rfl
theorem RBk.setS {B : Nat} {o : Bool} {a s : Int} {W : World} (h : RBk B o a s W) (s' : Int) : RBk B o a s' (W.setCell ⟨B, 2, none⟩ (.int .u32 s')) := by
  unfold RBk at h ⊢
  simp [World.setCell, Array.getElem?_modify, h]
theorem othP_snoc (f : Int → Option Int) (ss : List Int) (a : Int) : othP f (ss ++ [a]) = othP f ss ++ [(false, a, (f a).getD 0)] := by simp [othP]
theorem stepM_oth (f : Int → Option Int) (a s : Int) : stepM f (false, a, s) = updU f a (some (max ((f a).getD 0) s)) := rfl
theorem mb_nil : MB fun _ => none := fun a v h => by cases h
theorem ob_nil : OB none := fun v h => by cases h
theorem rbd_u {L : List (Bool × Int × Int)} (h : RBd L) {x : Bool × Int × Int} (hx : x ∈ L) : U32 x.2.1 ∧ U32 x.2.2 := by
  have := h x hx
  unfold U32
  omega

set_option maxRecDepth 100000 in
set_option maxHeartbeats 4000000 in
theorem mCompact_any (ao : Option Addr) (n c : Nat) (L : List (Bool × Int × Int)) (hL : L.length = n) (hn : n ≤ 50000) (hbd : RBd L) (w : World) (hA : HoldsC w ao (RC L)) :
    Calls Tryz.prog 69 #[.slice ao n c] w (CmpP L w) := by
  obtain ⟨i0, hi, hz0, hz1, hz2⟩ := info_parts info_rec
  have hmm := @run_makeMap Tryz.prog
  have hM0 := MapU.made (w.alloc (recBox true 0 0))
  rw [World.size_alloc] at hM0
  have hB0 : RBk w.heap.size true 0 0 ((w.alloc (recBox true 0 0)).alloc (.map #[] 0)) := (RBk.new true 0 0 w).later ((Below.refl _ _).alloc (Nat.le_refl _) _)
  have hb0 : Below w.heap.size w ((w.alloc (recBox true 0 0)).alloc (.map #[] 0)) := ((Below.refl _ _).alloc (Nat.le_refl _) _).alloc (by simp) _
  have hs0 : w.heap.size + 2 ≤ ((w.alloc (recBox true 0 0)).alloc (.map #[] 0)).heap.size := by simp
  dsimp only [recBox] at hM0 hB0 hb0 hs0
  go_enter Tryz.func69, Tryz.ntmps69
  go_wp2_with fail
  clear hmm
  generalize World.alloc _ _ = W0 at hM0 hB0 hb0 hs0 ⊢
  go_loopw [4, 15] (fun q i wr => ∃ (k sz : Nat), k ≤ n ∧ i = .int .i64 k ∧ q = .bool (owL (L.take k)).isSome ∧ MB (mpL (L.take k)) ∧ OB (owL (L.take k)) ∧ RBk w.heap.size true 0 ((owL (L.take k)).getD 0) wr ∧ MapU wr (w.heap.size + 1) (mpL (L.take k)) sz ∧ sz ≤ k ∧ Below w.heap.size w wr ∧ w.heap.size + 2 ≤ wr.heap.size) (fun _ i _ => n - (intOf i).toNat)
  case atStart => exact ⟨0, 0, Nat.zero_le _, rfl, rfl, mb_nil, ob_nil, hB0, hM0, Nat.le_refl _, hb0, hs0⟩
  case round =>
    clear hM0 hB0 hb0 hs0
    obtain ⟨k, sz, hk, rfl, rfl, hmb, hob, hB, hm, hsz, hb, hs2⟩ := hrel
    by_cases hlt : k < n
    · have hki : (k : Int) < (n : Int) := by omega
      obtain ⟨x, hx⟩ : ∃ x, L[k]? = some x := ⟨_, List.getElem?_eq_getElem (by omega)⟩
      have hat : ∀ i z, i < 3 → ([.bool x.1, .int .u32 x.2.1, .int .u32 x.2.2] : List Value)[i]? = some z → (RC L)[k * 3 + i]? = some z := fun i z hi hz => (flat_at (fun x : Bool × Int × Int => ([Value.bool x.1, Value.int .u32 x.2.1, Value.int .u32 x.2.2] : List Value)) 3 (by decide) (fun _ => rfl) L k i hi hx).trans hz
      have hA' := hA.below hb
      obtain ⟨b1, o1, rfl, hj1⟩ := hA' (k * 3 + 0) _ (hat 0 _ (by decide) rfl)
      have d0 := hA'.one rfl (hat 0 _ (by decide) rfl)
      have d1 := hA'.one rfl (hat 1 _ (by decide) rfl)
      have d2 := hA'.one rfl (hat 2 _ (by decide) rfl)
      have hxu := rbd_u hbd (List.mem_of_getElem? hx)
      have eM : Hid (mpL (L.take (k + 1)) = stepM (mpL (L.take k)) x) := by
        show _ = _
        rw [take_snocR hx, mpL_snoc]
      have eO : Hid (owL (L.take (k + 1)) = stepO (owL (L.take k)) x) := by
        show _ = _
        rw [take_snocR hx, owL_snoc]
      have hmb' : Hid (MB (mpL (L.take (k + 1)))) := by
        show MB _
        rw [eM.out]
        exact hmb.step hxu.1 hxu.2
      have hob' : Hid (OB (owL (L.take (k + 1)))) := by
        show OB _
        rw [eO.out]
        exact hob.step hxu.2
      obtain ⟨xo, xa, xs⟩ := x
      dsimp only at d0 d1 d2 hxu
      rw [Nat.add_zero] at d0
      rw [← Nat.add_assoc] at d1 d2
      have hB1 := hB.later ((Below.refl _ wr).alloc (Nat.le_refl _) (recBox xo xa xs))
      have hm1 := hm.kept (World.grownBy_alloc wr (recBox xo xa xs) none) (by simp)
      have hb1 := hb.alloc hb.size (recBox xo xa xs)
      have hs1 : w.heap.size + 2 ≤ (wr.alloc (recBox xo xa xs)).heap.size := by simp; omega
      clear hj1 hat hA' hx hB hm hb hmb
      generalize mpL (L.take k) = f at hm1 eM
      have ho : OB (owL (L.take k)) := hob
      generalize owL (L.take k) = cc at hB1 eO ho ⊢
      clear hob
      cases xo
      · have hl := hm1.look hxu.1
        obtain ⟨W2, hr, hm2, hg2⟩ := hm1.put (by unfold maxLen; omega) hxu.1 (v := max ((f xa).getD 0) xs) (by
          have hh := (hmb'.out)
          rw [eM.out, stepM_oth] at hh
          exact (hh xa _ (by simp [updU])).2)
        have hB2 := hB1.kept hg2 (by simp)
        have hb2 := hb1.grown hg2 hb1.size (fun k e => by cases e; omega)
        have hs3 := Nat.le_trans hs1 hg2.size
        have hszn : (if (f xa).isSome then sz else sz + 1) ≤ k + 1 := by split <;> omega
        rw [stepM_oth] at eM
        clear hm1 hB1 hb1 hg2 hs1 hs2 ho
        dsimp only [recBox] at hl hr
        generalize (f xa).getD 0 = fx at hl hr hm2 eM
        go_wp2
        go_roundw
        case rel => exact ⟨k + 1, _, by omega, by go_num, by rw [eO.out]; rfl, hmb'.out, hob'.out, by rw [eO.out]; exact hB2, by rw [eM.out]; exact hm2, hszn, hb2, hs3⟩
        case measure => simp [intOf]; omega
      · obtain ⟨c0, c1, c2⟩ := hB1.cell
        have ff := hB1.free 2
        have hm2 := fun v => hm1.kept (grown_cellOf (grown_self _ (some w.heap.size)) 2 v) (by simp)
        have hB2 := fun v => hB1.setS v
        have hb2 := fun v => hb1.setCell (p := ⟨w.heap.size, 2, none⟩) (Nat.le_refl _) v
        have hs3 : ∀ v, w.heap.size + 2 ≤ ((wr.alloc (recBox true xa xs)).setCell ⟨w.heap.size, 2, none⟩ v).heap.size := fun v => Nat.le_trans hs1 (grown_cellOf (grown_self _ (some w.heap.size)) 2 v).size
        clear hm1 hB1 hb1 hs1 hs2 hxu
        dsimp only [recBox] at c0 c1 c2 ff hm2 hB2 hb2 hs3
        have eO' : Hid (owL (L.take (k + 1)) = some (max (cc.getD 0) xs)) := by
          show _ = _
          rw [eO.out]; rfl
        clear eO ho
        generalize cc.getD 0 = t at c2 eO'
        go_wp2
        go_roundw
        case rel => exact ⟨k + 1, sz, by omega, by go_num, by rw [eO'.out]; rfl, hmb'.out, hob'.out, by rw [eO'.out]; exact hB2 _, by rw [eM.out]; exact hm2 _, by omega, hb2 _, hs3 _⟩
        case measure => simp [intOf]; omega
    · have hkn : n ≤ k := by omega
      rw [List.take_of_length_le (by omega)] at hB hm hmb hob ⊢
      have hsn : sz ≤ L.length := by omega
      have hLn : L.length ≤ 50000 := by omega
      have hnn : n = L.length := hL.symm
      clear hkn hsz hs2 hA hL
      generalize hf : mpL L = f at hm hmb
      have hf' := (show Hid _ from hf)
      generalize hc : owL L = cc at hB hob ⊢
      have hc' := (show Hid _ from hc)
      clear hf hc
      have hs2 := hB.lt
      have hMl := hm.lt
      have hkf : decide ((k : Int) < (n : Int)) = false := decide_eq_false (by omega)
      have hkf2 : decide (k < n) = false := decide_eq_false (by omega)
      cases cc with
      | none =>
        have ho8 : wr.ownsRow (w.heap.size + 2) 82 3 (.slice none 0 0) (ownP none).length (RC (ownP none)) := ⟨rfl, .inl ⟨rfl, rfl⟩⟩
        have hsz8 := hb.size
        have hMl8 := hm.lt
        have hw9 : Below wr.heap.size wr (wr.alloc (.cells #[.map (some (w.heap.size + 1))] 115)) := (Below.refl _ _).alloc (Nat.le_refl _) _
        have hseq := hm.keyList (wr.alloc (.cells #[.map (some (w.heap.size + 1))] 115)) wr.heap.size (by simp) (by simp) hw9
        have hso := sorted_any 141 #[.pointer (some ⟨wr.heap.size, 0, none⟩)] (enters_of Tryz.func141 (by kernel_rfl) rfl) _ sz (by omega) _ hseq
        have HSO := (show Hid _ from hso)
        clear hso hseq
        go_wp2_with fail
        refine (keys_any _ _).mono ?_
        rintro e w9 ⟨rfl, rfl⟩
        go_wp2_with fail
        refine Calls.mono HSO.out ?_
        rintro e W2 ⟨v, ts, ss, rfl, hS, hperm, hle, hlen, hrow, hb2⟩
        have hm9 := hm.kept ⟨hw9.os, hw9.tape, hw9.output, hw9.size, fun k hk _ => hw9.block k hk⟩ (row := none) (by simp)
        have hm2 := hm9.kept (below_grown hb2 none) (by simp)
        have hbb := (hb.trans (hw9.mono hb.size)).trans (hb2.mono (by simp; omega))
        have ho2 := (step_append_kept ho8 hw9)
        have ho3 := step_append_kept ho2 hb2
        have hlts : ts.Pairwise (· < ·) := by
          have hnd : ts.Nodup := hperm.nodup_iff.2 hS.1
          rw [List.pairwise_iff_getElem] at hle ⊢
          intro i j hi hj hij
          have h1 := hle i j hi hj hij
          have h2 := List.pairwise_iff_getElem.1 hnd i j hi hj hij
          omega
        have hmem : ∀ a, a ∈ ts ↔ (f a).isSome = true := fun a => by
          rw [hperm.mem_iff, hS.2 a]
          constructor
          · exact fun h => h.2
          · intro h
            obtain ⟨y, hy⟩ := Option.isSome_iff_exists.1 h
            exact ⟨(hmb a y hy).1, h⟩
        have hcmp : IsCmp f none (ownP none ++ othP f ts) := ⟨ts, hlts, hmem, rfl⟩
        have hmemU : ∀ a ∈ ts, U32 a := fun a ha => ((hS.2 a).1 (hperm.mem_iff.1 ha)).1
        obtain ⟨ao2, c2', rfl, _⟩ := row_form hrow
        have hcmp' := (show Hid _ from hcmp)
        clear HSO hm hm9 ho2 hb hb2 hw9 hS hperm hle hlts hmem hcmp ho8
        go_wp2_with fail
        go_loopw [8, 47] (fun v i wr2 => ∃ j : Nat, j ≤ ts.length ∧ i = .int .i64 j ∧ wr2.ownsRow (w.heap.size + 2) 82 3 v ((ownP none).length + j) (RC (ownP none ++ othP f (ts.take j))) ∧ wr2.ownsRow (wr.heap.size + 1) 34 1 (.slice ao2 ts.length c2') ts.length (ts.map encU) ∧ MapU wr2 (w.heap.size + 1) f sz ∧ Below w.heap.size w wr2 ∧ w.heap.size + 2 ≤ wr2.heap.size) (fun _ i _ => ts.length - (intOf i).toNat)
        case atStart =>
          refine ⟨0, Nat.zero_le _, rfl, ?_, by simpa using hrow, hm2, hbb, ?_⟩
          · simpa [othP] using ho3
          · have := hm2.lt
            omega
        case round =>
          obtain ⟨j, hj, rfl, hr8, hts, hmr, hbr, hsr⟩ := hrel
          clear ho3 hrow hm2 hbb
          by_cases hjl : j < ts.length
          · have hji : (j : Int) < (ts.length : Int) := by omega
            obtain ⟨g, cap, hv, _⟩ := row_shape' hts (by omega)
            cases hv
            have hta : (ts.map encU)[j]? = some (encU ts[j]) := by rw [List.getElem?_map, List.getElem?_eq_getElem hjl]; rfl
            have d0 := (hts.cellAt j (by omega)).trans hta
            have hau := hmemU _ (List.getElem_mem hjl)
            have htk : Hid (ts.take (j + 1) = ts.take j ++ [ts[j]]) := List.take_succ_eq_append_getElem hjl
            generalize ts[j] = a at d0 hau htk hta
            have hlk := hmr.look hau
            have hap := rows_apart hts hr8 (by decide)
            have hla := hr8.lt
            have hk1 : Hid ((ownP none).length + j + 1 ≤ maxLen) := by show _ ≤ _; simp [ownP]; unfold maxLen; omega
            have hk2 : Hid (((ownP none).length + j + 1) * 12 ≤ 140737488355328) := by show _ ≤ _; simp [ownP]; omega
            clear hta
            generalize ownP none = out0 at *
            go_wp2_with (at_builtin; refine wpList_append_own_at _ rfl _ _ 79 rfl (w.heap.size + 2) 82 i0 (.agg #[.bool false, .int .u32 0, .int .u32 0]) 3 12 Tryz.underlying79 hi hz0 hz1 hz2 rfl (by decide) u8 (out0.length + j) (RC (out0 ++ othP f (ts.take j))) rfl (hr8.alloc _) ⟨wr.heap.size, 0, none⟩ 1 1 (RC [(false, a, (f a).getD 0)]) rfl rfl (cells_rec wr false a ((f a).getD 0)) (one_rec false a ((f a).getD 0)) hk1.out hk2.out ?c4 ?_)
            case c4 => simp; omega
            intro v9 w9 ho9 hg9 _ _
            have hts9 := (hts.alloc (recBox false a ((f a).getD 0))).kept hg9 hap
            have hm9 := (hmr.kept (World.grownBy_alloc wr (recBox false a ((f a).getD 0)) none) (by simp)).kept hg9 (fun e => by have := (hla _ e.symm).1; omega)
            have hb9 := (hbr.alloc hbr.size (recBox false a ((f a).getD 0))).grown hg9 (by simp; omega) (fun k e => by have := (hla k e).1; omega)
            have hs9 : w.heap.size + 2 ≤ w9.heap.size := by have := hg9.size; simp at this; omega
            clear hr8 hts hmr hbr hg9 hap hlk d0
            go_wp2
            go_roundw
            case rel =>
              refine ⟨j + 1, by omega, by go_num, ?_, hts9, hm9, hb9, hs9⟩
              rw [htk.out, othP_snoc, ← List.append_assoc, RC_append, ← Nat.add_assoc]
              exact ho9
            case measure => simp [intOf]; omega
          · have hjn : j = ts.length := by omega
            subst hjn
            rw [List.take_length] at hr8
            clear hts hmr
            go_wp2
            go_ret
            refine ⟨_, ownP none ++ othP f ts, rfl, ?_, ?_, ?_, hbr⟩
            · rw [hf'.out, hc'.out]; exact hcmp'.out
            · simp [ownP, othP]; omega
            · have hol : (ownP none ++ othP f ts).length = (ownP none).length + ts.length := by simp [othP]
              rw [hol]
              exact ownsRow_base_a hr8 (by omega)
      | some t =>
        obtain ⟨c0, c1, c2⟩ := hB.cell
        rw [Option.getD_some] at c2
        go_wp2_with (at_builtin; refine wpList_append_own_at _ rfl _ _ 79 rfl (w.heap.size + 2) 82 i0 (.agg #[.bool false, .int .u32 0, .int .u32 0]) 3 12 Tryz.underlying79 hi hz0 hz1 hz2 rfl (by decide) (.slice none 0 0) 0 [] rfl ⟨rfl, .inl ⟨rfl, rfl⟩⟩ ⟨wr.heap.size, 0, none⟩ 1 1 (RC [(true, 0, t)]) rfl rfl (cells_rec wr true 0 t) (one_rec true 0 t) (by decide) (by decide) ?c3 ?_)
        case c3 => simp; omega
        intro v8 w8 ho8 hg8 hn8 _
        have hm8 := (hm.kept (World.grownBy_alloc wr (recBox true 0 t) none) (by simp)).kept hg8 (by simp [Value.ownBlock])
        have hb8 : Below w.heap.size w w8 := (hb.alloc hb.size _).grown hg8 (by simp; omega) (fun k e => by simp [Value.ownBlock] at e)
        clear hm hb hg8 hn8 c0 c1 c2 hkf hkf2
        have ho8' : w8.ownsRow (w.heap.size + 2) 82 3 v8 (ownP (some t)).length (RC (ownP (some t))) := ho8
        clear ho8
        have hm := hm8
        have hb := hb8
        clear hm8 hb8
        have hsz8 := hb.size
        have hMl8 := hm.lt
        have hw9 : Below w8.heap.size w8 (w8.alloc (.cells #[.map (some (w.heap.size + 1))] 115)) := (Below.refl _ _).alloc (Nat.le_refl _) _
        have hseq := hm.keyList (w8.alloc (.cells #[.map (some (w.heap.size + 1))] 115)) w8.heap.size (by simp) (by simp) hw9
        have hso := sorted_any 141 #[.pointer (some ⟨w8.heap.size, 0, none⟩)] (enters_of Tryz.func141 (by kernel_rfl) rfl) _ sz (by omega) _ hseq
        have HSO := (show Hid _ from hso)
        clear hso hseq
        go_wp2_with fail
        refine (keys_any _ _).mono ?_
        rintro e w9 ⟨rfl, rfl⟩
        go_wp2_with fail
        refine Calls.mono HSO.out ?_
        rintro e W2 ⟨v, ts, ss, rfl, hS, hperm, hle, hlen, hrow, hb2⟩
        have hm9 := hm.kept ⟨hw9.os, hw9.tape, hw9.output, hw9.size, fun k hk _ => hw9.block k hk⟩ (row := none) (by simp)
        have hm2 := hm9.kept (below_grown hb2 none) (by simp)
        have hbb := (hb.trans (hw9.mono hb.size)).trans (hb2.mono (by simp; omega))
        have ho2 := (step_append_kept ho8' hw9)
        have ho3 := step_append_kept ho2 hb2
        have hlts : ts.Pairwise (· < ·) := by
          have hnd : ts.Nodup := hperm.nodup_iff.2 hS.1
          rw [List.pairwise_iff_getElem] at hle ⊢
          intro i j hi hj hij
          have h1 := hle i j hi hj hij
          have h2 := List.pairwise_iff_getElem.1 hnd i j hi hj hij
          omega
        have hmem : ∀ a, a ∈ ts ↔ (f a).isSome = true := fun a => by
          rw [hperm.mem_iff, hS.2 a]
          constructor
          · exact fun h => h.2
          · intro h
            obtain ⟨y, hy⟩ := Option.isSome_iff_exists.1 h
            exact ⟨(hmb a y hy).1, h⟩
        have hcmp : IsCmp f (some t) (ownP (some t) ++ othP f ts) := ⟨ts, hlts, hmem, rfl⟩
        have hmemU : ∀ a ∈ ts, U32 a := fun a ha => ((hS.2 a).1 (hperm.mem_iff.1 ha)).1
        obtain ⟨ao2, c2', rfl, _⟩ := row_form hrow
        have hcmp' := (show Hid _ from hcmp)
        clear HSO hm hm9 ho2 hb hb2 hw9 hS hperm hle hlts hmem hcmp ho8'
        go_wp2_with fail
        go_loopw [8, 47] (fun v i wr2 => ∃ j : Nat, j ≤ ts.length ∧ i = .int .i64 j ∧ wr2.ownsRow (w.heap.size + 2) 82 3 v ((ownP (some t)).length + j) (RC (ownP (some t) ++ othP f (ts.take j))) ∧ wr2.ownsRow (w8.heap.size + 1) 34 1 (.slice ao2 ts.length c2') ts.length (ts.map encU) ∧ MapU wr2 (w.heap.size + 1) f sz ∧ Below w.heap.size w wr2 ∧ w.heap.size + 2 ≤ wr2.heap.size) (fun _ i _ => ts.length - (intOf i).toNat)
        case atStart =>
          refine ⟨0, Nat.zero_le _, rfl, ?_, by simpa using hrow, hm2, hbb, ?_⟩
          · simpa [othP] using ho3
          · have := hm2.lt
            omega
        case round =>
          obtain ⟨j, hj, rfl, hr8, hts, hmr, hbr, hsr⟩ := hrel
          clear ho3 hrow hm2 hbb
          by_cases hjl : j < ts.length
          · have hji : (j : Int) < (ts.length : Int) := by omega
            obtain ⟨g, cap, hv, _⟩ := row_shape' hts (by omega)
            cases hv
            have hta : (ts.map encU)[j]? = some (encU ts[j]) := by rw [List.getElem?_map, List.getElem?_eq_getElem hjl]; rfl
            have d0 := (hts.cellAt j (by omega)).trans hta
            have hau := hmemU _ (List.getElem_mem hjl)
            have htk : Hid (ts.take (j + 1) = ts.take j ++ [ts[j]]) := List.take_succ_eq_append_getElem hjl
            generalize ts[j] = a at d0 hau htk hta
            have hlk := hmr.look hau
            have hap := rows_apart hts hr8 (by decide)
            have hla := hr8.lt
            have hk1 : Hid ((ownP (some t)).length + j + 1 ≤ maxLen) := by show _ ≤ _; simp [ownP]; unfold maxLen; omega
            have hk2 : Hid (((ownP (some t)).length + j + 1) * 12 ≤ 140737488355328) := by show _ ≤ _; simp [ownP]; omega
            clear hta
            generalize ownP (some t) = out0 at *
            go_wp2_with (at_builtin; refine wpList_append_own_at _ rfl _ _ 79 rfl (w.heap.size + 2) 82 i0 (.agg #[.bool false, .int .u32 0, .int .u32 0]) 3 12 Tryz.underlying79 hi hz0 hz1 hz2 rfl (by decide) u8 (out0.length + j) (RC (out0 ++ othP f (ts.take j))) rfl (hr8.alloc _) ⟨wr.heap.size, 0, none⟩ 1 1 (RC [(false, a, (f a).getD 0)]) rfl rfl (cells_rec wr false a ((f a).getD 0)) (one_rec false a ((f a).getD 0)) hk1.out hk2.out ?c4 ?_)
            case c4 => simp; omega
            intro v9 w9 ho9 hg9 _ _
            have hts9 := (hts.alloc (recBox false a ((f a).getD 0))).kept hg9 hap
            have hm9 := (hmr.kept (World.grownBy_alloc wr (recBox false a ((f a).getD 0)) none) (by simp)).kept hg9 (fun e => by have := (hla _ e.symm).1; omega)
            have hb9 := (hbr.alloc hbr.size (recBox false a ((f a).getD 0))).grown hg9 (by simp; omega) (fun k e => by have := (hla k e).1; omega)
            have hs9 : w.heap.size + 2 ≤ w9.heap.size := by have := hg9.size; simp at this; omega
            clear hr8 hts hmr hbr hg9 hap hlk d0
            go_wp2
            go_roundw
            case rel =>
              refine ⟨j + 1, by omega, by go_num, ?_, hts9, hm9, hb9, hs9⟩
              rw [htk.out, othP_snoc, ← List.append_assoc, RC_append, ← Nat.add_assoc]
              exact ho9
            case measure => simp [intOf]; omega
          · have hjn : j = ts.length := by omega
            subst hjn
            rw [List.take_length] at hr8
            clear hts hmr
            go_wp2
            go_ret
            refine ⟨_, ownP (some t) ++ othP f ts, rfl, ?_, ?_, ?_, hbr⟩
            · rw [hf'.out, hc'.out]; exact hcmp'.out
            · simp [ownP, othP]; omega
            · have hol : (ownP (some t) ++ othP f ts).length = (ownP (some t)).length + ts.length := by simp [othP]
              rw [hol]
              exact ownsRow_base_a hr8 (by omega)
end Go.Proofs.YtakaadcpaeiccabGreat
