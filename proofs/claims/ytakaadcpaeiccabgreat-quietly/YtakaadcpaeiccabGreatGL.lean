import Derived.Test.YtakaadcpaeiccabGreatGK
import Derived.Test.YtakaadcpaeiccabGreatU12
namespace Go.Proofs.YtakaadcpaeiccabGreat
open Go.RowKit Go.Maps Go.Sort

theorem perm_all {d d' : Array Int} {n : Nat} (hd : d.size = n) (h : PermIn 0 n d d') : d'.toList.Perm d.toList := by
  obtain ⟨h1, _, h3⟩ := h
  have e1 : d.extract 0 n = d := by rw [← hd]; simp
  have e2 : d'.extract 0 n = d' := by rw [← hd, ← h1]; simp
  rw [e1, e2] at h3
  exact h3
theorem sorted_all {d : Array Int} {n : Nat} (hd : d.size = n) (h : SortedIn ltInt 0 n d) : d.toList.Pairwise (· ≤ ·) := by
  rw [List.pairwise_iff_getElem]
  intro i j hi hj hij
  have hi' : i < d.size := by simpa using hi
  have hj' : j < d.size := by simpa using hj
  have := h i j (Nat.zero_le _) hij (by omega)
  simp only [ltInt, decide_eq_false_iff_not] at this
  rw [getElem!_pos d j hj', getElem!_pos d i hi'] at this
  simp only [Array.getElem_toList]
  omega

set_option maxRecDepth 100000 in
set_option maxHeartbeats 2000000 in
/-- slices.Sorted, against whatever iterator: a new row that holds what came, ascending. -/
theorem sorted_any (g : Nat) (lb : Array Value) (eg : ∀ args w, (callFunc g args).run Tryz.prog w = .ok (.enter g args) w)
    (S : List Int → Prop) (N : Nat) (hN : N ≤ 1000000) (w : World) (hseq : SeqGives Fence.wide 1 Tryz.prog g lb encU S N w) :
    Calls Tryz.prog 102 #[.func (.func g) #[] lb] w fun e w' => ∃ (v : Value) (ts ss : List Int), e = .returned v ∧ S ss ∧ ts.Perm ss ∧ ts.Pairwise (· ≤ ·) ∧ ts.length ≤ N ∧
      w'.ownsRow w.heap.size 34 1 v ts.length (ts.map encU) ∧ Below w.heap.size w w' := by
  have hc := callsIn_wide.1 (collect_in Fence.wide 3 trivial trivial rfl (Nat.le_refl _) g lb trivial eg _ N (by unfold maxLen; omega) (by omega) w hseq.bounded)
  have HC := (show Hid _ from hc)
  clear hc hseq
  go_enter Tryz.func102, Tryz.ntmps102
  go_wp2_with fail
  refine Calls.mono HC.out ?_
  rintro e W ⟨v, ss, rfl, ⟨hS, hlen⟩, hrow, hnil, hb⟩
  clear HC
  rcases hrow.2 with ⟨rfl, hz⟩ | ⟨gb, cap, cur, rfl, hbase, hgb, r1, r2, r3, r4⟩
  · have hss : ss = [] := List.eq_nil_of_length_eq_zero hz
    subst hss
    go_wp2_with fail
    refine (sort_nil _).mono ?_
    rintro e w2 ⟨rfl, hg⟩
    go_wp2
    go_ret
    refine ⟨.slice none 0 0, [], [], rfl, hS, List.Perm.refl _, List.Pairwise.nil, Nat.zero_le _, ⟨rfl, .inl ⟨rfl, rfl⟩⟩, hb.grown hg hb.size (fun k e => by cases e)⟩
  · have hSR : SR w.heap.size gb cap ss.length ss.toArray W := ⟨by simp, by
      have : UC ss.toArray = ss.map encU := by simp [UC]
      rw [this]; exact hrow⟩
    have hs := sort_any w.heap.size gb cap ss.length ss.toArray W hSR (by omega)
    have HS := (show Hid _ from hs)
    have HB := (show Hid _ from hb)
    clear hs hSR hgb r3 r4 hrow hb
    go_wp2_with fail
    refine Calls.mono HS.out ?_
    rintro e w2 ⟨rfl, d', h', hp, hso, hg⟩
    clear HS
    go_wp2
    go_ret
    have hsz : d'.size = ss.length := h'.size
    have hl : d'.toList.length = ss.length := by simpa using hsz
    have hpa := perm_all (by simp) hp
    refine ⟨_, d'.toList, ss, rfl, hS, by simpa using hpa, sorted_all hsz hso, by omega, ?_, HB.out.grown hg HB.out.size (fun k e => by cases e; exact hbase)⟩
    rw [hl]
    exact h'.row
end Go.Proofs.YtakaadcpaeiccabGreat

namespace Go.Proofs.YtakaadcpaeiccabGreat
open Go.RowKit Go.Maps Go.Sort

set_option maxRecDepth 100000 in
set_option maxHeartbeats 2000000 in
/-- The iterator of maps.Keys over a map of numbers: each key comes once, in some order. -/
theorem rkeys1_in {H : Type} (F : Fence) (n : Nat) (h10 : F.fn 170) (hro : F.round = none) (hn : 1 ≤ n) (l Bm b nn : Nat) (D0 : DataW H) {R : Value → Option (DataW H × List MemPlace)} (J : List Int → World → Prop)
    (hY : ∀ pre x W, J pre W → pre.length < Maps.size D0 → YieldAt F (n - 1) Tryz.prog l #[encU x] W fun e W' => e = .returned (.bool true) ∧ J (pre ++ [x]) W' ∧ KeepsWalks W W')
    (W : World) (hJ : AbidesFrom W.heap.size J) (hm : W.cell? ⟨Bm, 0, none⟩ = some (.map (some b))) (hown : W.ownsMap Tryz.prog 34 R b nn D0) (h0 : J [] W) :
    CallsIn F n Tryz.prog 170 #[.func (.yield l) #[] #[], .pointer (some ⟨Bm, 0, none⟩)] W fun e W' => (∃ v, e = .returned v) ∧ ∃ ss : List Int, KeyList D0 ss ∧ J ss W' := by
  refine callsIn_of_wp Tryz.func170 rfl h10 ?_ hro
  simp only [Tryz.ntmps170, List.size_toArray, List.length_cons, List.length_nil, Nat.reduceAdd, Nat.reduceSub, Array.replicate_succ, Array.replicate_zero, List.push_toArray, List.append_toArray, List.nil_append, List.cons_append]
  gi_wp2_with (first
    | (gi_at_range; refine wpListIn_range_own _ rfl _ 156 rfl 34 161 tu_law Tryz.underlying156 _ b nn _ rfl hown ?_; intro w0 hrg0 hg0 hs0)
    | gi_in)
  go_frame
  gi_loopw [3] (fun _ wr => ∃ (left : Lit → Bool) (cnt : Nat) (ss : List Int), wr.ranges Tryz.prog 34 R b W.heap.size nn D0 left cnt ∧ ss.length + cnt ≤ Maps.size D0 ∧ CollectedU D0 left ss ∧ J ss wr)
    (fun _ wr => wr.rangeLeft b W.heap.size)
  case atStart =>
    exact ⟨_, _, [], hrg0, by simp, CollectedU.start D0, hJ [] W w0 none h0 hg0 (fun r e => by cases e)⟩
  case round =>
    obtain ⟨left, cnt, ss, hrg, hcs, hC, hJs⟩ := hrel
    gi_wp2_with (first
      | (gi_at_next; refine wpListIn_next_ranges _ rfl _ rfl 34 tu_law R encU id (fun key kl hk => by obtain ⟨x, hx, _⟩ := keyOf_u32 Tryz.underlying34 hk; exact ⟨x, hx⟩) (fun v _ _ => ⟨v, rfl⟩) b W.heap.size nn _ _ _ rfl hrg ?_ ?_)
      | gi_in)
    · intro hc0 hl0
      gi_wp2
      go_end0
      exact ⟨⟨_, rfl⟩, ss, hC.keys hl0, hJs⟩
    · intro x c kl yd yp w2 cnt2 hkey hlk hv hat hrg2 hlt hg2 hs2 hen
      obtain ⟨x', ex, rfl, hwf⟩ := keyOf_u32 Tryz.underlying34 hkey
      obtain rfl : x = x' := encU_inj ex
      have hJ2 : J ss w2 := hJ ss wr w2 (some W.heap.size) hJs hg2 (fun r e => by cases e; exact ⟨Nat.le_refl _, hrg.iter_walk⟩)
      obtain ⟨fn, tmps, assign, body, hy, hR⟩ := hY ss x w2 hJ2 (by omega)
      clear hs2
      gi_wp2
      refine hR.mono ?_
      rintro e W3 ⟨rfl, hJ3, hk3⟩
      gi_wp2
      have hrg3 := hrg2.of_walks hk3
      go_roundw
      case rel => exact ⟨_, cnt2, ss ++ [x], hrg3, by simp; omega, hC.step hlk hat hwf, hJ3⟩
      case measure => rw [hrg3.left_eq, hrg.left_eq]; exact hlt

/-- maps.Keys hands back an iterator over the keys. -/
theorem rkeys_gives {H : Type} (F : Fence) (n : Nat) (h10 : F.fn 170) (hro : F.round = none) (hn : 1 ≤ n) (Bm b nn : Nat) (D0 : DataW H) {R : Value → Option (DataW H × List MemPlace)} (w : World) (hBm : Bm < w.heap.size)
    (hm : w.cell? ⟨Bm, 0, none⟩ = some (.map (some b))) (hown : w.ownsMap Tryz.prog 34 R b nn D0) :
    SeqGives F n Tryz.prog 170 #[.pointer (some ⟨Bm, 0, none⟩)] encU (KeyList D0) (Maps.size D0) w := fun l J W hW hJ hY h0 => by
  have hown' : W.ownsMap Tryz.prog 34 R b nn D0 := by
    have hbl := hown.lt
    obtain ⟨es, clock, hb, Ft, hs, hD⟩ := hown
    exact ⟨es, clock, (hW.block b hbl).trans hb, Ft, hs, hD⟩
  exact rkeys1_in F n h10 hro hn l Bm b nn D0 J hY W hJ ((hW.cell (p := ⟨Bm, 0, none⟩) hBm).trans hm) hown' h0
end Go.Proofs.YtakaadcpaeiccabGreat
