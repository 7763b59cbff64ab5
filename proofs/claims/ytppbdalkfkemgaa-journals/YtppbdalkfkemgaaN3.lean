import Derived.Test.YtppbdalkfkemgaaN2
import Derived.RangeFuncBound
import Derived.Sort.MapsRangeIn
import Derived.Sort.KeysCollected
import Derived.WalkKit
import Derived.OwnWalkIn
import Derived.TacticsInMore
import Derived.RegionIn
import Derived.LoopNIn
import Derived.LoopIn
import Derived.RangeFuncLeaves
namespace Go.Proofs.Ytppbdalkfkemgaa
open Go.RowKit Go.Maps Go.Sort

abbrev encU : Int → Value := Value.int .u32
theorem encU_inj {x y : Int} (h : encU x = encU y) : x = y := by simpa [encU] using h
theorem keyOf_u32 {P : Program} {k : TypeId} (hk : P.underlying k = some (.int .u32)) {key : Value} {kl : Lit} (h : keyOf P k key = some kl) : ∃ x : Int, key = encU x ∧ kl = .int .u32 x ∧ (Lit.int .u32 x).wf = true := by
  cases key <;> simp [keyOf, hk, mapKey] at h
  rename_i q a
  obtain ⟨⟨rfl, hw⟩, rfl⟩ := h
  exact ⟨a, rfl, rfl, hw⟩
/-- The keys met so far. -/
def CollectedU {H : Type} (D0 : DataW H) (left : Lit → Bool) (ss : List Int) : Prop :=
  ss.Nodup ∧ (∀ x ∈ ss, (Lit.int .u32 x).wf = true) ∧ ∀ x, x ∈ ss ↔ (has D0 (.int .u32 x) = true ∧ left (.int .u32 x) = false)
/-- All keys, each once. -/
def KeyList {H : Type} (D0 : DataW H) (ss : List Int) : Prop :=
  ss.Nodup ∧ (∀ x ∈ ss, (Lit.int .u32 x).wf = true) ∧ ∀ x, x ∈ ss ↔ has D0 (.int .u32 x) = true
section
variable {H : Type} {D0 : DataW H} {left : Lit → Bool} {ss : List Int}
theorem CollectedU.start (D0 : DataW H) : CollectedU D0 (has D0) [] := ⟨List.nodup_nil, by simp, fun x => by cases has D0 (.int .u32 x) <;> simp⟩
theorem CollectedU.step (h : CollectedU D0 left ss) {x : Int} {y : DataW H} (hlk : left (.int .u32 x) = true) (hat : ∀ zd, D0.atKey (.int .u32 x) zd = y) (hw : (Lit.int .u32 x).wf = true) : CollectedU D0 (fun z => left z && !z.sameKey (.int .u32 x)) (ss ++ [x]) := by
  have hhas : has D0 (.int .u32 x) = true := has_true_of_atKey hat
  have hnew : x ∉ ss := fun hx => by have := ((h.2.2 x).1 hx).2; rw [hlk] at this; cases this
  refine ⟨List.nodup_append.2 ⟨h.1, by simp, fun a ha b hb => by simp at hb; subst hb; exact fun e => hnew (e ▸ ha)⟩, ?_, fun y => ?_⟩
  · intro a ha
    rcases List.mem_append.1 ha with ha | ha
    · exact h.2.1 a ha
    · simp at ha; subst ha; exact hw
  · by_cases hy : y = x
    · subst hy; simp [hhas, Lit.sameKey]
    · simp [h.2.2 y, hy, Lit.sameKey]
theorem CollectedU.keys (h : CollectedU D0 left ss) (hl : ∀ kl, left kl = false) : KeyList D0 ss := ⟨h.1, h.2.1, fun x => by rw [h.2.2 x, hl]; simp⟩
end

set_option maxRecDepth 100000 in
set_option maxHeartbeats 2000000 in
/-- The iterator of maps.Keys over a map of numbers: each key comes once, in some order. -/
theorem ukeys1_in {H : Type} (F : Fence) (n : Nat) (h10 : F.fn 102) (hro : F.round = none) (hn : 1 ≤ n) (l Bm b nn : Nat) (D0 : DataW H) {R : Value → Option (DataW H × List MemPlace)} (J : List Int → World → Prop)
    (hY : ∀ pre x W, J pre W → pre.length < Maps.size D0 → YieldAt F (n - 1) Try.prog l #[encU x] W fun e W' => e = .returned (.bool true) ∧ J (pre ++ [x]) W' ∧ KeepsWalks W W')
    (W : World) (hJ : AbidesFrom W.heap.size J) (hm : W.cell? ⟨Bm, 0, none⟩ = some (.map (some b))) (hown : W.ownsMap Try.prog 23 R b nn D0) (h0 : J [] W) :
    CallsIn F n Try.prog 102 #[.func (.yield l) #[] #[], .pointer (some ⟨Bm, 0, none⟩)] W fun e W' => (∃ v, e = .returned v) ∧ ∃ ss : List Int, KeyList D0 ss ∧ J ss W' := by
  refine callsIn_of_wp Try.func102 rfl h10 ?_ hro
  simp only [Try.ntmps102, List.size_toArray, List.length_cons, List.length_nil, Nat.reduceAdd, Nat.reduceSub, Array.replicate_succ, Array.replicate_zero, List.push_toArray, List.append_toArray, List.nil_append, List.cons_append]
  gi_wp2_with (first
    | (gi_at_range; refine wpListIn_range_own _ rfl _ 120 rfl 23 23 tu_law Try.underlying120 _ b nn _ rfl hown ?_; intro w0 hrg0 hg0 hs0)
    | gi_in)
  go_frame
  gi_loopw [3] (fun _ wr => ∃ (left : Lit → Bool) (cnt : Nat) (ss : List Int), wr.ranges Try.prog 23 R b W.heap.size nn D0 left cnt ∧ ss.length + cnt ≤ Maps.size D0 ∧ CollectedU D0 left ss ∧ J ss wr)
    (fun _ wr => wr.rangeLeft b W.heap.size)
  case atStart =>
    exact ⟨_, _, [], hrg0, by simp, CollectedU.start D0, hJ [] W w0 none h0 hg0 (fun r e => by cases e)⟩
  case round =>
    obtain ⟨left, cnt, ss, hrg, hcs, hC, hJs⟩ := hrel
    gi_wp2_with (first
      | (gi_at_next; refine wpListIn_next_ranges _ rfl _ rfl 23 tu_law R encU id (fun key kl hk => by obtain ⟨x, hx, _⟩ := keyOf_u32 Try.underlying23 hk; exact ⟨x, hx⟩) (fun v _ _ => ⟨v, rfl⟩) b W.heap.size nn _ _ _ rfl hrg ?_ ?_)
      | gi_in)
    · intro hc0 hl0
      gi_wp2
      go_end0
      exact ⟨⟨_, rfl⟩, ss, hC.keys hl0, hJs⟩
    · intro x c kl yd yp w2 cnt2 hkey hlk hv hat hrg2 hlt hg2 hs2 hen
      obtain ⟨x', ex, rfl, hwf⟩ := keyOf_u32 Try.underlying23 hkey
      obtain rfl : x = x' := encU_inj ex
      have hJ2 : J ss w2 := hJ ss wr w2 (some W.heap.size) hJs hg2 (fun r e => by cases e; exact ⟨Nat.le_refl _, hrg.iter_walk⟩)
      obtain ⟨fn, tmps, assign, body, hy, hR⟩ := hY ss x w2 hJ2 (by omega)
      clear hs2
      gi_wp2
      refine hR.mono ?_
      rintro e W3 ⟨rfl, hJ3, hk3⟩
      gi_wp2
      have hrg3 := hrg2.of_walks hk3
      go_roundw
      case rel => exact ⟨_, cnt2, ss ++ [x], hrg3, by simp; omega, hC.step hlk hat hwf, hJ3⟩
      case measure => rw [hrg3.left_eq, hrg.left_eq]; exact hlt

/-- maps.Keys hands back an iterator over the keys. -/
theorem ukeys_gives {H : Type} (F : Fence) (n : Nat) (h10 : F.fn 102) (hro : F.round = none) (hn : 1 ≤ n) (Bm b nn : Nat) (D0 : DataW H) {R : Value → Option (DataW H × List MemPlace)} (w : World) (hBm : Bm < w.heap.size)
    (hm : w.cell? ⟨Bm, 0, none⟩ = some (.map (some b))) (hown : w.ownsMap Try.prog 23 R b nn D0) :
    SeqGives F n Try.prog 102 #[.pointer (some ⟨Bm, 0, none⟩)] encU (KeyList D0) (Maps.size D0) w := fun l J W hW hJ hY h0 => by
  have hown' : W.ownsMap Try.prog 23 R b nn D0 := by
    have hbl := hown.lt
    obtain ⟨es, clock, hb, Ft, hs, hD⟩ := hown
    exact ⟨es, clock, (hW.block b hbl).trans hb, Ft, hs, hD⟩
  exact ukeys1_in F n h10 hro hn l Bm b nn D0 J hY W hJ ((hW.cell (p := ⟨Bm, 0, none⟩) hBm).trans hm) hown' h0

/-- What the keys of a map of numbers are. -/
theorem MapU.keyList {W : World} {M : Nat} {f : Int → Option Int} {s : Nat} (h : MapU W M f s) (w : World) (Bm : Nat) (hBm : Bm < w.heap.size) (hm : w.cell? ⟨Bm, 0, none⟩ = some (.map (some M))) (hW : Below W.heap.size W w) :
    SeqGives Fence.wide 1 Try.prog 102 #[.pointer (some ⟨Bm, 0, none⟩)] encU (fun ss => ss.Nodup ∧ ∀ x, x ∈ ss ↔ (U32 x ∧ (f x).isSome = true)) s w := by
  obtain ⟨D, h1, h2, h3⟩ := h
  have hl := h1.lt
  have h1' : w.ownsMap Try.prog 23 (plainElem Try.prog 23) M s D := by
    obtain ⟨es, clock, hb, Ft, hs, hD⟩ := h1
    exact ⟨es, clock, (hW.block M hl).trans hb, Ft, hs, hD⟩
  have hg := ukeys_gives Fence.wide 1 trivial rfl (Nat.le_refl _) Bm M s D w hBm hm h1'
  rw [h2] at hg
  intro l J W' hW' hJ hY h0
  refine (hg l J W' hW' hJ hY h0).mono ?_
  rintro e W2 ⟨hv, ss, hk, hj⟩
  refine ⟨hv, ss, ⟨hk.1, fun x => ?_⟩, hj⟩
  constructor
  · intro hx
    have hw := bounds_u32 (hk.2.1 x hx)
    have hU : U32 x := ⟨hw.1, by have := hw.2; omega⟩
    exact ⟨hU, by rw [← (h3 x hU).1]; exact (hk.2.2 x).1 hx⟩
  · rintro ⟨hU, hs⟩
    exact (hk.2.2 x).2 (by rw [(h3 x hU).1]; exact hs)
end Go.Proofs.Ytppbdalkfkemgaa
