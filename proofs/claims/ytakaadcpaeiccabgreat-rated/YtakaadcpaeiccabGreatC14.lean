import Derived.Test.YtakaadcpaeiccabGreatC08
import Derived.Test.YtakaadcpaeiccabGreatC13
import Derived.Test.YtakaadcpaeiccabGreatC02
import Derived.Deep.RegionLaw
import Derived.WalkKit
import Derived.Maps.AppendAt
import Derived.Deep.QuietTactic
import Derived.BigQuiet
namespace Go.Proofs.YtakaadcpaeiccabGreat
open Go.RowKit Go.Maps

set_option maxHeartbeats 1000000 in
theorem rkeys_any (M : Nat) (w : World) :
    Calls Tryz.prog 134 #[.map (some M)] w fun e w' => e = .returned (.func (.func 170) #[] #[.pointer (some ⟨w.heap.size, 0, none⟩)]) ∧ w' = w.alloc (.cells #[.map (some M)] 156) := by
  go_enter Tryz.func134, Tryz.ntmps134
  go_wp2
  go_ret
  exact ⟨rfl, rfl⟩
theorem MapP.keyList {W : World} {M : Nat} {f : Int → Option Nat} {s : Nat} (h : MapP W M f s) (w : World) (Bm : Nat) (hBm : Bm < w.heap.size) (hm : w.cell? ⟨Bm, 0, none⟩ = some (.map (some M))) (hW : Below W.heap.size W w) :
    SeqGives Fence.wide 1 Tryz.prog 170 #[.pointer (some ⟨Bm, 0, none⟩)] encU (fun ss => ss.Nodup ∧ ∀ x, x ∈ ss ↔ (U32 x ∧ (f x).isSome = true)) s w := by
  have hl := h.lt
  obtain ⟨D, h1, h2, h3⟩ := h
  have h1' : w.ownsMap Tryz.prog 34 ptrR M s D := by
    obtain ⟨es, clock, hb, Ft, hs, hD⟩ := h1
    exact ⟨es, clock, (hW.block M hl).trans hb, Ft, hs, hD⟩
  have hg := rkeys_gives Fence.wide 1 trivial rfl (Nat.le_refl _) Bm M s D w hBm hm h1'
  rw [h2] at hg
  intro l J W' hW' hJ hY h0
  refine (hg l J W' hW' hJ hY h0).mono ?_
  rintro e W2 ⟨hv, ss, hk, hj⟩
  refine ⟨hv, ss, ⟨hk.1, fun x => ?_⟩, hj⟩
  constructor
  · intro hx
    have hw := bounds_u32 (hk.2.1 x hx)
    have hU : U32 x := ⟨hw.1, by have := hw.2; omega⟩
    exact ⟨hU, by rw [← (h3 x hU).1]; exact (hk.2.2 x).1 hx⟩
  · rintro ⟨hU, hs⟩
    exact (hk.2.2 x).2 (by rw [(h3 x hU).1]; exact hs)

set_option maxRecDepth 100000 in
set_option maxHeartbeats 2000000 in
/-- The destinations, rising. -/
theorem dests_any {me : Int} {T M : Nat} {f : Int → Option Nat} {g : Int → Value} {A : List Rt} {w : World} (h : MT me T M f g A w) :
    Calls Tryz.prog 95 #[.pointer (some ⟨T, 0, none⟩)] w fun e w' => ∃ v, e = .returned v ∧ w'.ownsRow w.heap.size 34 1 v A.length ((A.map (·.dest)).map encU) ∧ Below w.heap.size w w' := by
  obtain ⟨c0, c1⟩ := h.blk.cell
  have hb9 : Below w.heap.size w (w.alloc (.cells #[.map (some M)] 156)) := (Below.refl _ _).alloc (Nat.le_refl _) _
  have hseq := h.map.keyList (w.alloc (.cells #[.map (some M)] 156)) w.heap.size (by simp) (by simp) hb9
  have hso := sorted_any 170 #[.pointer (some ⟨w.heap.size, 0, none⟩)] (enters_of Tryz.func170 (by kernel_rfl) rfl) _ A.length (by have := h.len; omega) _ hseq
  have HSO := (show Hid _ from hso)
  clear hso hseq
  go_enter Tryz.func95, Tryz.ntmps95
  go_wp2_with fail
  refine (rkeys_any _ _).mono ?_
  rintro e w9 ⟨rfl, rfl⟩
  go_wp2_with fail
  refine Calls.mono HSO.out ?_
  rintro e W2 ⟨v, ts, ss, rfl, hS, hperm, hle, hlen, hrow, hb2⟩
  have hlts : ts.Pairwise (· < ·) := by
    have hnd : ts.Nodup := hperm.nodup_iff.2 hS.1
    rw [List.pairwise_iff_getElem] at hle ⊢
    intro i j hi hj hij
    have h1 := hle i j hi hj hij
    have h2 := List.pairwise_iff_getElem.1 hnd i j hi hj hij
    omega
  have hts : ts = A.map (·.dest) := by
    refine lt_unique hlts (by rw [List.pairwise_map]; exact h.asc) fun a => ?_
    rw [hperm.mem_iff, hS.2 a, List.mem_map]
    constructor
    · rintro ⟨hU, hs⟩
      obtain ⟨B, hB⟩ := Option.isSome_iff_exists.1 hs
      obtain ⟨x, hx, hxd⟩ := h.dom a B hU hB
      exact ⟨x, hx, hxd⟩
    · rintro ⟨x, hx, rfl⟩
      obtain ⟨B, hB, _⟩ := h.ln x hx
      exact ⟨(h.ok x hx).dest, by rw [hB]; rfl⟩
  subst hts
  have hbb := hb9.trans (hb2.mono (by simp))
  rw [List.length_map] at hrow
  have hrow' := ownsRow_base_a (base' := w.heap.size) hrow (by simp)
  clear HSO hS hperm hle hlen hrow hlts hb9 hb2
  go_wp2
  go_ret
  exact ⟨v, rfl, hrow', hbb⟩

/-- Lines as cells. -/
def rtC (p : Rt × Value) : List Value := [.int .u32 p.1.dest, .int .u32 p.1.seq, .int .i64 p.1.hops, .int .u32 p.1.next, .bool p.1.valid, .int .u64 p.1.exp, p.2]
def RtC (L : List (Rt × Value)) : List Value := L.flatMap rtC
theorem RtC_append (a b : List (Rt × Value)) : RtC (a ++ b) = RtC a ++ RtC b := by simp [RtC]
theorem RtC_at {L : List (Rt × Value)} {k : Nat} {p : Rt × Value} (h : L[k]? = some p) {i : Nat} (hi : i < 7) : (RtC L)[k * 7 + i]? = (rtC p)[i]? :=
  flat_at rtC 7 (by decide) (fun _ => rfl) L k i hi h
theorem info_rt : (Tryz.prog.info? 38).map (fun i => (i.zero, i.size, i.bytes)) = some (some (.agg #[.int .u32 0, .int .u32 0, .int .i64 0, .int .u32 0, .bool false, .int .u64 0, .slice none 0 0]), 7, 56) := by kernel_rfl
theorem one_rt (x : Rt) (a : Option Addr) (n c : Nat) : ∀ u ∈ RtC [(x, .slice a n c)], u.oneCell' = true := by
  intro u hu
  simp only [RtC, rtC, List.flatMap_cons, List.flatMap_nil, List.append_nil, List.mem_cons, List.not_mem_nil, or_false] at hu
  rcases hu with rfl | rfl | rfl | rfl | rfl | rfl | rfl <;> rfl
theorem cells_rt (W : World) (x : Rt) (v : Value) : ∀ (j : Nat) (u : Value), (RtC [(x, v)])[j]? = some u → (W.alloc (rtBox x v)).cell? ((⟨W.heap.size, 0, none⟩ : Addr).add j) = some u := by
  intro j u hj
  obtain ⟨q0, q1, q2, q3, q4, q5, q6⟩ := (LnB.new x v W).cell
  rw [Addr.add_lit, Nat.zero_add]
  simp only [RtC, rtC, List.flatMap_cons, List.flatMap_nil, List.append_nil] at hj
  match j, hj with
  | 0, hj => exact q0.trans hj
  | 1, hj => exact q1.trans hj
  | 2, hj => exact q2.trans hj
  | 3, hj => exact q3.trans hj
  | 4, hj => exact q4.trans hj
  | 5, hj => exact q5.trans hj
  | 6, hj => exact q6.trans hj
  | j + 7, hj => simp at hj
/-- A list of lines, laid: the row, and the rows of the neighbours. -/
structure LsR (base : Nat) (v : Value) (L : List (Rt × Value)) (W : World) : Prop where
  row : W.ownsRow base 38 7 v L.length (RtC L)
  bef : ∀ p ∈ L, W.ownsRow base 34 1 p.2 p.1.bef.length (p.1.bef.map encU)
theorem LsR.later {base : Nat} {v : Value} {L : List (Rt × Value)} {W W' : World} (h : LsR base v L W) (hb : Below W.heap.size W W') : LsR base v L W' :=
  ⟨step_append_kept h.row hb, fun p hp => step_append_kept (h.bef p hp) hb⟩

set_option maxRecDepth 100000 in
set_option maxHeartbeats 4000000 in
theorem List_any {me : Int} {T M : Nat} {f : Int → Option Nat} {g : Int → Value} {A : List Rt} {w : World} (h : MT me T M f g A w) :
    Calls Tryz.prog 60 #[.pointer (some ⟨T, 0, none⟩)] w fun e w' => ∃ v L, e = .returned v ∧ L.map (·.1) = A ∧ LsR w.heap.size v L w' ∧ Below w.heap.size w w' := by
  obtain ⟨i0, hi, hz0, hz1, hz2⟩ := info_parts info_rt
  have hlen := h.len
  have HD := (show Hid _ from dests_any h)
  go_enter Tryz.func60, Tryz.ntmps60
  go_wp2_with fail
  refine Calls.mono HD.out ?_
  rintro e w1 ⟨dv, rfl, hdr, hb1⟩
  clear HD
  obtain ⟨ad, cd, rfl, _⟩ := row_form hdr
  go_wp2_with fail
  go_loopw [3, 9] (fun lv i wr => ∃ (k : Nat) (L : List (Rt × Value)), k ≤ A.length ∧ i = .int .i64 k ∧ L.map (·.1) = A.take k ∧ LsR w.heap.size lv L wr ∧ wr.ownsRow w.heap.size 34 1 (.slice ad A.length cd) A.length ((A.map (·.dest)).map encU) ∧ Below w.heap.size w wr) (fun _ i _ => A.length - (intOf i).toNat)
  case atStart => exact ⟨0, [], Nat.zero_le _, rfl, rfl, ⟨⟨rfl, .inl ⟨rfl, rfl⟩⟩, fun p hp => by simp at hp⟩, hdr, hb1⟩
  case round =>
    clear hdr hb1
    obtain ⟨k, L, hk, rfl, hL, hls, hdr, hb⟩ := hrel
    have hLl : L.length = k := by
      have := congrArg List.length hL
      simp at this
      omega
    by_cases hlt : k < A.length
    · have hki : (k : Int) < (A.length : Int) := by omega
      obtain ⟨x, hx⟩ : ∃ x, A[k]? = some x := ⟨_, List.getElem?_eq_getElem hlt⟩
      have hxA := List.mem_of_getElem? hx
      obtain ⟨gd, capd, hv, _⟩ := row_shape' hdr (by omega)
      cases hv
      have d0 := (hdr.cellAt k (by omega)).trans (by rw [List.getElem?_map, List.getElem?_map, hx]; rfl : ((A.map (·.dest)).map encU)[k]? = some (encU x.dest))
      have hM := h.later hb
      obtain ⟨B, hB, hLn⟩ := hM.ln x hxA
      have hR := hM.row x hxA
      have hok := h.ok x hxA
      have hlk := hM.map.look hok.dest
      rw [hB] at hlk
      simp only [ptrOf] at hlk
      obtain ⟨t0, t1⟩ := hM.blk.cell
      have hx' := (show Hid _ from hx)
      have hL' := (show Hid _ from hL)
      clear hM hx hL
      go_wp2_with fail
      refine (handOut_any B x (g x.dest) hok.befs _ hLn hR).mono ?_
      rintro e w2 ⟨v', rfl, ho2, hb2⟩
      obtain ⟨ao2, c2', rfl, _⟩ := row_form ho2
      have hls2 := hls.later hb2
      have hdr2 := step_append_kept hdr hb2
      have hbb := hb.trans (hb2.mono hb.size)
      have ho2' := ownsRow_base_a ho2 hb.size
      clear hls hdr hb2 ho2 hLn hR hlk t0 t1 d0
      have hla := hls2.row.lt
      have hap : ∀ p ∈ L ++ [(x, Value.slice ao2 x.bef.length c2')], w2.ownsRow w.heap.size 34 1 p.2 p.1.bef.length (p.1.bef.map encU) := by
        intro p hp
        rcases List.mem_append.1 hp with hp | hp
        · exact hls2.bef p hp
        · rw [List.mem_singleton] at hp
          subst hp
          exact ho2'
      have hk1 : Hid (L.length + 1 ≤ maxLen) := by show _ ≤ _; unfold maxLen; omega
      have hk2 : Hid ((L.length + 1) * 56 ≤ 140737488355328) := by show _ ≤ _; omega
      have hr0 := hls2.row
      go_wp2_with (at_builtin; refine wpList_append_own_at _ rfl _ _ 31 rfl w.heap.size 38 i0 (.agg #[.int .u32 0, .int .u32 0, .int .i64 0, .int .u32 0, .bool false, .int .u64 0, .slice none 0 0]) 7 56 Tryz.underlying31 hi hz0 hz1 hz2 rfl (by decide) u3 L.length (RtC L) rfl (hr0.alloc _) ⟨w2.heap.size, 0, none⟩ 1 1 (RtC [(x, .slice ao2 x.bef.length c2')]) rfl rfl (cells_rt w2 x (.slice ao2 x.bef.length c2')) (one_rt x ao2 x.bef.length c2') hk1.out hk2.out ?c3 ?_)
      case c3 => have := hbb.size; simp; omega
      intro v3 w3 ho3 hg3 _ _
      have hb3 : Below w2.heap.size w2 (w2.alloc (rtBox x (.slice ao2 x.bef.length c2'))) := (Below.refl _ _).alloc (Nat.le_refl _) _
      have hls3 : LsR w.heap.size v3 (L ++ [(x, .slice ao2 x.bef.length c2')]) w3 := by
        refine ⟨by rw [List.length_append, RtC_append, hLl]; exact ho3, fun p hp => ?_⟩
        have h1 := step_append_kept (hap p hp) hb3
        exact h1.kept hg3 (rows_apart h1 (hr0.alloc _) (by decide))
      have hdr3 := (step_append_kept hdr2 hb3).kept hg3 (rows_apart (step_append_kept hdr2 hb3) (hr0.alloc _) (by decide))
      have hb4 := (hbb.trans (hb3.mono hbb.size)).grown hg3 (by have := hbb.size; simp; omega) (fun k e => (hla k e).1)
      clear hls2 hdr2 hbb hap ho2' ho3 hg3 hb3 hr0 hla
      go_wp2
      go_roundw
      case rel =>
        refine ⟨k + 1, L ++ [(x, .slice ao2 x.bef.length c2')], by omega, by go_num, ?_, hls3, hdr3, hb4⟩
        rw [List.map_append, hL'.out, List.take_add_one, hx'.out]
        rfl
      case measure => simp [intOf]; omega
    · have hkn : A.length ≤ k := by omega
      rw [List.take_of_length_le hkn] at hL
      clear hdr hkn
      go_wp2
      go_ret
      exact ⟨_, L, rfl, hL, hls, hb⟩
end Go.Proofs.YtakaadcpaeiccabGreat

namespace Go.Proofs.YtakaadcpaeiccabGreat
open Go.RowKit Go.Maps

/-- What Broken tells of a line. -/
def brkP (nxt : Int) (y : Rt) : Option (Int × Int) := if (y.valid && (y.next == nxt)) && decide (0 < y.bef.length) then some (y.dest, max (gr y.seq) 0) else none
def brkL (nxt : Int) (A : List Rt) : List (Int × Int) := A.filterMap (brkP nxt)
/-- What is lost, as cells. -/
def LsC (L : List (Int × Int)) : List Value := L.flatMap fun x => [.int .u32 x.1, .int .u32 x.2]
theorem LsC_append (a b : List (Int × Int)) : LsC (a ++ b) = LsC a ++ LsC b := by simp [LsC]
end Go.Proofs.YtakaadcpaeiccabGreat

namespace Go.Proofs.YtakaadcpaeiccabGreat
open Go.RowKit Go.Maps

def expP (now : Int) (y : Rt) : Bool := y.valid && decide (y.exp ≤ now)
def expF (now : Int) (y : Rt) : Rt := if expP now y then endR y 0 else y
theorem expF_dest (now : Int) (y : Rt) : (expF now y).dest = y.dest := by
  unfold expF
  split <;> rfl
def expL (A : List Rt) (now : Int) : List Rt := A.map (expF now)
/-- The lines that the walk has met are turned. -/
def metL (left : Lit → Bool) (now : Int) (A : List Rt) : List Rt := A.map fun y => if left (.int .u32 y.dest) then y else expF now y
theorem metL_step {left : Lit → Bool} {x : Int} (h : left (.int .u32 x) = true) (now : Int) (A : List Rt) : modL (metL left now A) x (expF now) = metL (fun z => left z && !z.sameKey (.int .u32 x)) now A := by
  unfold modL metL
  rw [List.map_map]
  refine List.map_congr_left fun y _ => ?_
  by_cases e : y.dest = x
  · subst e
    simp [h, Lit.sameKey]
  · by_cases hl : left (.int .u32 y.dest) = true
    · simp [hl, e, Lit.sameKey]
    · simp [hl, e, Lit.sameKey, expF_dest]
theorem metL_line {left : Lit → Bool} {A : List Rt} {y : Rt} (hy : y ∈ A) (h : left (.int .u32 y.dest) = true) (now : Int) : y ∈ metL left now A :=
  List.mem_map.2 ⟨y, hy, by simp [h]⟩

theorem ptrR_shape {v : Value} {y : DataW Unit × List MemPlace} (h : ptrR v = some y) : ∃ c : Option Nat, v = ptrOf c := by
  unfold ptrR at h
  split at h
  · exact ⟨none, rfl⟩
  · exact ⟨some _, rfl⟩
  · cases h

set_option maxRecDepth 100000 in
set_option maxHeartbeats 4000000 in
theorem Expire_any {me : Int} {T M : Nat} {f : Int → Option Nat} {g : Int → Value} {A : List Rt} {S : Nat → Prop} (now : Int) {w : World} (h : MT me T M f g A w) (hS : ∀ k, TIn T M f g A k → S k) (hSb : ∀ k, S k → k < w.heap.size) :
    Calls Tryz.prog 76 #[.pointer (some ⟨T, 0, none⟩), .int .u64 now] w fun e w' => ∃ g', e = .returned (.tuple #[]) ∧ MT me T M f g' (expL A now) w' ∧ (∀ k, TIn T M f g' (expL A now) k → S k) ∧ Fx S w w' := by
  obtain ⟨D, h1, h2, h3⟩ := h.map
  obtain ⟨t0, t1⟩ := h.blk.cell
  have hok0 := h.ok
  have hdom0 := h.dom
  have h3' := (show Hid _ from h3)
  have hhas : ∀ y ∈ A, has D (.int .u32 y.dest) = true := fun y hy => by
    obtain ⟨B, hB, _⟩ := h.ln y hy
    rw [(h3 _ (hok0 y hy).dest).1, hB]
    rfl
  have hst : metL (has D) now A = A := by
    unfold metL
    conv => rhs; rw [← List.map_id A]
    exact List.map_congr_left fun y hy => by simp [hhas y hy]
  have hSt := (show Hid _ from hst)
  clear h3 hst
  go_enter Tryz.func76, Tryz.ntmps76
  go_wp2_with (at_range; refine wpList_range_own _ rfl _ 156 rfl 34 161 tu_law Tryz.underlying156 _ M A.length _ rfl h1 ?_; intro w0 hrg0 hg0 hs0)
  go_frame
  go_loopw [5] (fun _ wr => ∃ (left : Lit → Bool) (cnt : Nat) (g' : Int → Value), wr.ranges Tryz.prog 34 ptrR M w.heap.size A.length D left cnt ∧ MT me T M f g' (metL left now A) wr ∧ (∀ q, TIn T M f g' (metL left now A) q → S q) ∧ Fx S w wr)
    (fun _ wr => wr.rangeLeft M w.heap.size)
  case atStart =>
    have hb : Below w.heap.size w w0 := ⟨hg0.os, hg0.tape, hg0.output, hg0.size, fun k hk => hg0.block k hk (by simp)⟩
    refine ⟨_, _, g, hrg0, ?_, ?_, Fx.below hb⟩
    · rw [hSt.out]; exact h.later hb
    · rw [hSt.out]; exact hS
  case round =>
    clear h h1 hg0 hs0 hrg0 t0 t1
    obtain ⟨left, cnt, g', hrg, hM, hMS, hfx⟩ := hrel
    go_wp2_with (at_next; refine wpList_next_ranges _ rfl _ rfl 34 tu_law ptrR encU ptrOf (fun key kl hk => by obtain ⟨x, hx, _⟩ := keyOf_u32 Tryz.underlying34 hk; exact ⟨x, hx⟩) (fun v y hv => ptrR_shape hv) M w.heap.size A.length _ _ _ rfl hrg ?_ ?_)
    · intro hc0 hl0
      have hall : metL left now A = expL A now := by
        unfold metL expL
        exact List.map_congr_left fun y _ => by simp [hl0]
      rw [hall] at hM hMS
      clear hall
      go_wp2
      go_end0
      exact ⟨g', rfl, hM, hMS, hfx⟩
    · intro x c kl yd yp w2 cnt2 hkey hlk hv hat hrg2 hlt hg2 hs2 hen
      obtain ⟨x', ex, rfl, hwf⟩ := keyOf_u32 Tryz.underlying34 hkey
      obtain rfl : x = x' := encU_inj ex
      clear ex hkey
      have hb := bounds_u32 hwf
      have hxu : U32 x := ⟨hb.1, by have := hb.2; omega⟩
      have h3x := (h3'.out x hxu).2
      rw [hat] at h3x
      rw [ptrR_of] at hv
      have hcl : litOf c = litOf (f x) := by
        have e1 := congrArg Prod.fst (Option.some.inj hv)
        rw [h3x] at e1
        simpa using e1
      have hsome := (h3'.out x hxu).1
      rw [has_true_of_atKey hat] at hsome
      obtain ⟨B, hB⟩ := Option.isSome_iff_exists.1 hsome.symm
      have hc : c = some B := by
        rw [hB] at hcl
        cases c with
        | none => simp [litOf] at hcl
        | some c =>
          simp only [litOf] at hcl
          exact congrArg some (by omega)
      subst hc
      simp only [ptrOf] at hen ⊢
      obtain ⟨y, hyA, rfl⟩ := hdom0 x B hxu hB
      have hyM := metL_line hyA hlk now
      have hM2 : MT me T M f g' (metL left now A) w2 := hM.kept (fun q hq => hg2.block q (hM.lt hq) (fun e => by
        have h4 := hSb q (hMS q hq)
        have h5 : w.heap.size = q := by injection e with e; exact e.symm
        omega))
      have hfx2 : Fx S w w2 := hfx.trans (Fx.grown (S := fun q => w.heap.size ≤ q) hg2 (fun q e => by cases e; exact Nat.le_refl _)) (fun q hq hq' => by omega)
      have hl := lineOf_mem hM2.asc hyM
      have hLn : LnB B y (g' y.dest) w2 := by
        obtain ⟨B', hB', hL⟩ := hM2.ln y hyM
        rw [hB] at hB'
        cases hB'
        exact hL
      have hSB : S B := hMS B (hM.inB hl hB)
      have hmod := metL_step hlk now A
      have hMod := (show Hid _ from hmod)
      have hlq := hrg.left_eq
      have hme := (show Hid (cnt2 < wr.rangeLeft M w.heap.size) from by show _ < _; rw [hlq]; exact hlt)
      obtain ⟨c0, c1, c2, c3, c4, c5, c6⟩ := hLn.cell
      clear hs2 hmod hat hv hcl h3x hsome hM hfx hrg hlq hlt hlk hb hwf
      by_cases hex : expP now y = true
      · have hF : expF now y = endR y 0 := if_pos hex
        have hyv : y.valid = true := by unfold expP at hex; revert hex; cases y.valid <;> simp
        have hye : decide (y.exp ≤ now) = true := by unfold expP at hex; revert hex; cases y.valid <;> simp
        rw [hyv] at c4
        have HE := (show Hid _ from end_any B y (g' y.dest) 0 w2 hLn)
        go_wp2_with fail
        refine Calls.mono HE.out ?_
        rintro e w3 ⟨rfl, hL3, hg3⟩
        have ht := hM2.turn (W' := w3) hl hB (expF now) (expF_dest now) (by rw [hF]; exact endR_ok (hok0 y hyA) (by simp [U32])) (.slice none 0 0) (by rw [hF]; exact hL3) (by rw [hF]; exact ⟨rfl, .inl ⟨rfl, rfl⟩⟩) (.inl rfl) (fun q hq hqB _ => hg3.block q (hM2.lt hq) (fun e => hqB (by cases e; rfl)))
        rw [hMod.out] at ht
        have hrg3 := hrg2.of_walks (KeepsWalks.of_grownBy hg3 (fun j o e ho => by
          cases e
          rw [show w2.heap[B]? = _ from hLn] at ho
          cases ho
          rfl))
        have hfx3 : Fx S w w3 := hfx2.trans (Fx.grown (S := S) hg3 (fun q e => by cases e; exact hSB)) (fun _ _ h => h)
        have hmS : ∀ q, TIn T M f _ _ q → S q := fun q hq => by
          rcases ht.2 q hq with h4 | h4
          · exact hMS q h4
          · cases h4
        have hM3 := ht.1
        clear HE c0 c1 c2 c3 c4 c5 c6 hLn hg3 hg2 hM2 hrg2 hfx2 ht hL3
        go_wp2
        go_roundw
        case rel => exact ⟨_, cnt2, _, hrg3, hM3, hmS, hfx3⟩
        case measure => rw [hrg3.left_eq]; exact hme.out
      · have hF : expF now y = y := if_neg hex
        have hid : metL left now A = metL (fun z => left z && !z.sameKey (.int .u32 y.dest)) now A := by
          rw [← hMod.out]
          exact (modL_id hM2.asc fun z hz => by
            rw [hl] at hz
            cases hz
            exact hF).symm
        rw [hid] at hM2 hMS
        clear hid
        cases hyv : y.valid
        · rw [hyv] at c4
          go_wp2
          go_roundw
          case rel => exact ⟨_, cnt2, g', hrg2, hM2, hMS, hfx2⟩
          case measure => rw [hrg2.left_eq]; exact hme.out
        · rw [hyv] at c4
          have hye : decide (y.exp ≤ now) = false := by
            unfold expP at hex
            rw [hyv, Bool.true_and] at hex
            simpa using hex
          go_wp2
          go_roundw
          case rel => exact ⟨_, cnt2, g', hrg2, hM2, hMS, hfx2⟩
          case measure => rw [hrg2.left_eq]; exact hme.out
end Go.Proofs.YtakaadcpaeiccabGreat

namespace Go.Proofs.YtakaadcpaeiccabGreat
open Go.RowKit

/-- 'append' onto a row of the call's own, as one step of a region that draws its order. -/
theorem step_append_own {P : Program} {ops : Array Oper} {o : Oper} {a : Act} {w : World} {K : Act → World → Prop} {Q : Exit → Act → World → Prop} {E : Prop}
    (hg : o.guard = none) (s x : Operand) (t : TypeId) (hop : o.op = Op.call { callee := Callee.builtin Builtin.append, args := #[s, x], argTypes := #[t, t] })
    (base : Nat) (e : TypeId) (i : TypeInfo) (z : Value) (size bytes : Nat) (h1 : P.underlying t = some (.slice e)) (h2 : P.info? e = some i) (h3 : i.zero = some z) (h4 : i.size = size) (h5 : i.bytes = bytes) (h6 : z.cells.size = size) (h7 : 0 < size)
    (v : Value) (n : Nat) (xs : List Value) (hs : a.eval s = v) (hown : w.ownsRow base e size v n xs)
    (ad : Addr) (m c : Nat) (news : List Value) (hx : a.eval x = .slice (some ad) m c) (hn : news.length = m * size) (hc : ∀ j u, news[j]? = some u → w.cell? (ad.add j) = some u) (h1c : ∀ u ∈ news, u.oneCell' = true)
    (b1 : n + m ≤ maxLen) (b2 : (n + m) * bytes ≤ 140737488355328) (hbase : base ≤ w.heap.size)
    (hK : ∀ v' w', w'.ownsRow base e size v' (n + m) (xs ++ news) → w.grownBy w' v.ownBlock → K (a.put o.dst v') w') :
    if Region.wanted o (yielded ops a.tmps) = true then Oper.wp P o a w K Q else E := by
  have hw : Region.wanted o (yielded ops a.tmps) = true := by simp [Region.wanted, hg]
  rw [if_pos hw]
  obtain ⟨v', w', hrun, r1, r2, _⟩ := run_append_own (P := P) w base t o.type e i z size bytes h1 h2 h3 h4 h5 h6 h7 v n xs hown ad m c news hn hc h1c b1 b2 hbase
  unfold Oper.wp
  simp [execOp, hop, resolve, invoke, builtin, hs, hx, hrun, Result.andThen]
  exact hK v' w' r1 r2
/-- 'append' onto a row of the call's own, as one step of a region that draws its order; and where the new row lies. -/
theorem step_append_at {P : Program} {ops : Array Oper} {o : Oper} {a : Act} {w : World} {K : Act → World → Prop} {Q : Exit → Act → World → Prop} {E : Prop}
    (hg : o.guard = none) (s x : Operand) (t : TypeId) (hop : o.op = Op.call { callee := Callee.builtin Builtin.append, args := #[s, x], argTypes := #[t, t] })
    (base : Nat) (e : TypeId) (i : TypeInfo) (z : Value) (size bytes : Nat) (h1 : P.underlying t = some (.slice e)) (h2 : P.info? e = some i) (h3 : i.zero = some z) (h4 : i.size = size) (h5 : i.bytes = bytes) (h6 : z.cells.size = size) (h7 : 0 < size)
    (v : Value) (n : Nat) (xs : List Value) (hs : a.eval s = v) (hown : w.ownsRow base e size v n xs)
    (ad : Addr) (m c : Nat) (news : List Value) (hx : a.eval x = .slice (some ad) m c) (hn : news.length = m * size) (hc : ∀ j u, news[j]? = some u → w.cell? (ad.add j) = some u) (h1c : ∀ u ∈ news, u.oneCell' = true)
    (b1 : n + m ≤ maxLen) (b2 : (n + m) * bytes ≤ 140737488355328) (hbase : base ≤ w.heap.size)
    (hK : ∀ v' w', w'.ownsRow base e size v' (n + m) (xs ++ news) → w.grownBy w' v.ownBlock → (v'.ownBlock = v.ownBlock ∨ v'.ownBlock = some w.heap.size) → K (a.put o.dst v') w') :
    if Region.wanted o (yielded ops a.tmps) = true then Oper.wp P o a w K Q else E := by
  have hw : Region.wanted o (yielded ops a.tmps) = true := by simp [Region.wanted, hg]
  rw [if_pos hw]
  obtain ⟨v', w', hrun, r1, r2, _, r3⟩ := run_append_own_at (P := P) w base t o.type e i z size bytes h1 h2 h3 h4 h5 h6 h7 v n xs hown ad m c news hn hc h1c b1 b2 hbase
  unfold Oper.wp
  simp [execOp, hop, resolve, invoke, builtin, hs, hx, hrun, Result.andThen]
  exact hK v' w' r1 r2 r3
end Go.Proofs.YtakaadcpaeiccabGreat

namespace Go.Proofs.YtakaadcpaeiccabGreat
open Go.RowKit Go.Maps

theorem MapU.look_ok {W : World} {M : Nat} {f : Int → Option Int} {s : Nat} (h : MapU W M f s) {k : Int} (hk : U32 k) :
    (Instr.lookup 115 (.map (some M)) (.int .u32 k) true).run Tryz.prog W = .ok (.tuple #[.int .u32 ((f k).getD 0), .bool (f k).isSome]) W := by
  obtain ⟨D, h1, h2, h3⟩ := h
  obtain ⟨v, ps, hr, hv⟩ := h1.look_ok tu_law Tryz.underlying115 (tu_zero W) (plainElem_int Tryz.underlying34 (by decide)) hk.key
  obtain ⟨c, rfl, he, _⟩ := plainElem_int_inv Tryz.underlying34 hv
  rw [(h3 k hk).2] at he
  simp at he
  rw [hr, he.1, (h3 k hk).1]
theorem MapU.block {W W' : World} {M : Nat} {f : Int → Option Int} {s : Nat} (h : MapU W M f s) (he : W'.heap[M]? = W.heap[M]?) : MapU W' M f s := by
  obtain ⟨D, ⟨es, clock, hb, Ft, hs, hD⟩, h2, h3⟩ := h
  exact ⟨D, ⟨es, clock, he.trans hb, Ft, hs, hD⟩, h2, h3⟩
theorem MapU.obj {W : World} {M : Nat} {f : Int → Option Int} {s : Nat} (h : MapU W M f s) : ∃ es cl, W.heap[M]? = some (.map es cl) := by
  obtain ⟨D, ⟨es, cl, hm, _⟩, _⟩ := h
  exact ⟨es, cl, hm⟩

/-- A node's own cells. -/
structure NdV where
  lk : Int
  self : Int
  seq : Int
  sil : Int
  T : Nat
  Ms : Nat
  tn : Int
  own : Int
  Mo : Nat
  cnt : Int
  lreq : Int
  ldat : Int
  Msr : Nat
  Tm : Nat
  pc : Value
@[reducible] def ndBox (x : NdV) : Obj := .cells #[.int .i32 x.lk, .int .u32 0, .int .u32 x.self, .int .u32 x.seq, .int .u64 x.sil, .int .u32 x.lreq, .int .u32 x.ldat, .pointer (some ⟨x.T, 0, none⟩), .map (some x.Ms), .int .i64 x.tn, .int .u32 x.own, .map (some x.Mo), .int .i64 x.cnt, .map (some x.Msr), .pointer (some ⟨x.Tm, 0, none⟩), x.pc] 131
def NdB (N : Nat) (x : NdV) (W : World) : Prop := W.heap[N]? = some (ndBox x)
theorem NdB.cell {N : Nat} {x : NdV} {W : World} (h : NdB N x W) :
    W.cell? ⟨N, 0, none⟩ = some (.int .i32 x.lk) ∧ W.cell? ⟨N, 2, none⟩ = some (.int .u32 x.self) ∧ W.cell? ⟨N, 3, none⟩ = some (.int .u32 x.seq) ∧ W.cell? ⟨N, 4, none⟩ = some (.int .u64 x.sil) ∧ W.cell? ⟨N, 7, none⟩ = some (.pointer (some ⟨x.T, 0, none⟩)) ∧
    W.cell? ⟨N, 8, none⟩ = some (.map (some x.Ms)) ∧ W.cell? ⟨N, 9, none⟩ = some (.int .i64 x.tn) ∧ W.cell? ⟨N, 10, none⟩ = some (.int .u32 x.own) ∧ W.cell? ⟨N, 11, none⟩ = some (.map (some x.Mo)) ∧ W.cell? ⟨N, 12, none⟩ = some (.int .i64 x.cnt) :=
  ⟨cell_of_row W N 0 _ _ _ h, cell_of_row W N 2 _ _ _ h, cell_of_row W N 3 _ _ _ h, cell_of_row W N 4 _ _ _ h, cell_of_row W N 7 _ _ _ h, cell_of_row W N 8 _ _ _ h, cell_of_row W N 9 _ _ _ h, cell_of_row W N 10 _ _ _ h, cell_of_row W N 11 _ _ _ h, cell_of_row W N 12 _ _ _ h⟩
theorem NdB.more {N : Nat} {x : NdV} {W : World} (h : NdB N x W) :
    W.cell? ⟨N, 5, none⟩ = some (.int .u32 x.lreq) ∧ W.cell? ⟨N, 6, none⟩ = some (.int .u32 x.ldat) ∧ W.cell? ⟨N, 13, none⟩ = some (.map (some x.Msr)) ∧ W.cell? ⟨N, 14, none⟩ = some (.pointer (some ⟨x.Tm, 0, none⟩)) ∧ W.cell? ⟨N, 15, none⟩ = some x.pc :=
  ⟨cell_of_row W N 5 _ _ _ h, cell_of_row W N 6 _ _ _ h, cell_of_row W N 13 _ _ _ h, cell_of_row W N 14 _ _ _ h, cell_of_row W N 15 _ _ _ h⟩
theorem NdB.free {N : Nat} {x : NdV} {W : World} (h : NdB N x W) (i : Nat) : W.frozen? ⟨N, i, none⟩ = false := by
  unfold World.frozen?
  rw [show W.heap[(⟨N, i, none⟩ : Addr).block]? = some (ndBox x) from h]
  try rfl
theorem NdB.lt {N : Nat} {x : NdV} {W : World} (h : NdB N x W) : N < W.heap.size := (Array.getElem?_eq_some_iff.1 h).1
theorem NdB.block {N : Nat} {x : NdV} {W W' : World} (h : NdB N x W) (he : W'.heap[N]? = W.heap[N]?) : NdB N x W' := he.trans h
theorem NdB.later {N : Nat} {x : NdV} {W W' : World} (h : NdB N x W) (hb : Below W.heap.size W W') : NdB N x W' := h.block (hb.block N h.lt)
theorem NdB.kept {N : Nat} {x : NdV} {W W' : World} {r : Option Nat} (h : NdB N x W) (hg : W.grownBy W' r) (hr : r ≠ some N) : NdB N x W' := h.block (hg.block N h.lt (fun e => hr e.symm))
theorem NdB.setLk {N : Nat} {x : NdV} {W : World} (h : NdB N x W) (v : Int) : NdB N { x with lk := v } (W.setCell ⟨N, 0, none⟩ (.int .i32 v)) := by
  unfold NdB at h ⊢
  simp [World.setCell, Array.getElem?_modify, h]
theorem NdB.setSeq {N : Nat} {x : NdV} {W : World} (h : NdB N x W) (v : Int) : NdB N { x with seq := v } (W.setCell ⟨N, 3, none⟩ (.int .u32 v)) := by
  unfold NdB at h ⊢
  simp [World.setCell, Array.getElem?_modify, h]
theorem NdB.setSil {N : Nat} {x : NdV} {W : World} (h : NdB N x W) (v : Int) : NdB N { x with sil := v } (W.setCell ⟨N, 4, none⟩ (.int .u64 v)) := by
  unfold NdB at h ⊢
  simp [World.setCell, Array.getElem?_modify, h]
theorem NdB.setTn {N : Nat} {x : NdV} {W : World} (h : NdB N x W) (v : Int) : NdB N { x with tn := v } (W.setCell ⟨N, 9, none⟩ (.int .i64 v)) := by
  unfold NdB at h ⊢
  simp [World.setCell, Array.getElem?_modify, h]
theorem NdB.setOwn {N : Nat} {x : NdV} {W : World} (h : NdB N x W) (v : Int) : NdB N { x with own := v } (W.setCell ⟨N, 10, none⟩ (.int .u32 v)) := by
  unfold NdB at h ⊢
  simp [World.setCell, Array.getElem?_modify, h]
theorem NdB.setCnt {N : Nat} {x : NdV} {W : World} (h : NdB N x W) (v : Int) : NdB N { x with cnt := v } (W.setCell ⟨N, 12, none⟩ (.int .i64 v)) := by
  unfold NdB at h ⊢
  simp [World.setCell, Array.getElem?_modify, h]

theorem NdB.setLreq {N : Nat} {x : NdV} {W : World} (h : NdB N x W) (v : Int) : NdB N { x with lreq := v } (W.setCell ⟨N, 5, none⟩ (.int .u32 v)) := by
  unfold NdB at h ⊢
  simp [World.setCell, Array.getElem?_modify, h]
theorem NdB.setLdat {N : Nat} {x : NdV} {W : World} (h : NdB N x W) (v : Int) : NdB N { x with ldat := v } (W.setCell ⟨N, 6, none⟩ (.int .u32 v)) := by
  unfold NdB at h ⊢
  simp [World.setCell, Array.getElem?_modify, h]
theorem NdB.setPc {N : Nat} {x : NdV} {W : World} (h : NdB N x W) (v : Value) : NdB N { x with pc := v } (W.setCell ⟨N, 15, none⟩ v) := by
  unfold NdB at h ⊢
  simp [World.setCell, Array.getElem?_modify, h]

/-- What is new about the numbers. -/
def isNew (f : Int → Option Int) (x : Rt) : Bool := !(f x.dest).isSome || decide (x.seq > (f x.dest).getD 0)
def nwsS (st : (Int → Option Int) × List (Bool × Int × Int)) (x : Rt) : (Int → Option Int) × List (Bool × Int × Int) :=
  if isNew st.1 x then (updU st.1 x.dest (some x.seq), st.2 ++ [(false, x.dest, x.seq)]) else st
def nwsO (q own : Int) : List (Bool × Int × Int) := if q > own then [(true, 0, q)] else []
def newsP (q own : Int) (f : Int → Option Int) (A : List Rt) : (Int → Option Int) × List (Bool × Int × Int) := A.foldl nwsS (f, nwsO q own)
theorem newsP_take (q own : Int) (f : Int → Option Int) {A : List Rt} {k : Nat} {x : Rt} (h : A[k]? = some x) : newsP q own f (A.take (k + 1)) = nwsS (newsP q own f (A.take k)) x := by
  unfold newsP
  rw [List.take_add_one, h]
  simp
theorem newsP_len (q own : Int) (f : Int → Option Int) (A : List Rt) : (newsP q own f A).2.length ≤ A.length + 1 := by
  have h : ∀ (A : List Rt) (st : (Int → Option Int) × List (Bool × Int × Int)), (A.foldl nwsS st).2.length ≤ st.2.length + A.length := by
    intro A
    induction A with
    | nil => intro st; simp
    | cons y A ih =>
      intro st
      rw [List.foldl_cons]
      refine Nat.le_trans (ih _) ?_
      unfold nwsS
      split <;> simp <;> omega
  have := h A (f, nwsO q own)
  unfold newsP
  refine Nat.le_trans this ?_
  unfold nwsO
  split <;> simp <;> omega
theorem grown_Fx {S : Nat → Prop} {a b c : World} {r : Option Nat} (h : Fx S a b) (k : b.grownBy c r) (hr : ∀ i, i < a.heap.size → r = some i → S i) : Fx S a c :=
  h.trans (S' := fun i => r = some i) (Fx.grown k fun _ e => e) (fun i hi e => hr i hi e)
theorem LsR.at {base : Nat} {v : Value} {L : List (Rt × Value)} {W W' : World} (h : LsR base v L W) (hv : ∀ k, v.ownBlock = some k → W'.heap[k]? = W.heap[k]?) (hb : ∀ p ∈ L, ∀ k, p.2.ownBlock = some k → W'.heap[k]? = W.heap[k]?) : LsR base v L W' :=
  ⟨row_at h.row hv, fun p hp => row_at (h.bef p hp) (hb p hp)⟩
/-- A list of lines stays where something of another kind turns. -/
theorem LsR.grown {base : Nat} {v : Value} {L : List (Rt × Value)} {W W' : World} (h : LsR base v L W) {r : Option Nat} (hg : W.grownBy W' r) (hr : ∀ k, r = some k → ∃ o, W.heap[k]? = some o ∧ (∀ c, o ≠ .cells c 38 (0, 0)) ∧ ∀ c, o ≠ .cells c 34 (0, 0)) : LsR base v L W' := by
  refine h.at (fun k hk => hg.block k (h.row.lt k hk).2 fun e => ?_) (fun p hp k hk => hg.block k ((h.bef p hp).lt k hk).2 fun e => ?_)
  · obtain ⟨o, h1, h2, _⟩ := hr k e.symm
    exact row_not h.row h1 h2 hk
  · obtain ⟨o, h1, _, h3⟩ := hr k e.symm
    exact row_not (h.bef p hp) h1 h3 hk
end Go.Proofs.YtakaadcpaeiccabGreat
