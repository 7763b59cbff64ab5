import Derived.Test.YtakaadcpaeiccabGreatC10
import Derived.Test.YtakaadcpaeiccabGreatC15
import Derived.Test.YtakaadcpaeiccabGreatC02
import Derived.Deep.RegionLaw
import Derived.WalkKit
import Derived.Maps.AppendAt
namespace Go.Proofs.YtakaadcpaeiccabGreat
open Go.RowKit Go.Maps

set_option maxHeartbeats 1000000 in
theorem rkeys_any (M : Nat) (w : World) :
    Calls Tryz.prog 134 #[.map (some M)] w fun e w' => e = .returned (.func (.func 170) #[] #[.pointer (some ⟨w.heap.size, 0, none⟩)]) ∧ w' = w.alloc (.cells #[.map (some M)] 156) := by
  go_enter Tryz.func134, Tryz.ntmps134
  go_wp2
  go_ret
  exact ⟨rfl, rfl⟩
theorem MapP.keyList {W : World} {M : Nat} {f : Int → Option Nat} {s : Nat} (h : MapP W M f s) (w : World) (Bm : Nat) (hBm : Bm < w.heap.size) (hm : w.cell? ⟨Bm, 0, none⟩ = some (.map (some M))) (hW : Below W.heap.size W w) :
    SeqGives Fence.wide 1 Tryz.prog 170 #[.pointer (some ⟨Bm, 0, none⟩)] encU (fun ss => ss.Nodup ∧ ∀ x, x ∈ ss ↔ (U32 x ∧ (f x).isSome = true)) s w := by
  have hl := h.lt
  obtain ⟨D, h1, h2, h3⟩ := h
  have h1' : w.ownsMap Tryz.prog 34 ptrR M s D := by
    obtain ⟨es, clock, hb, Ft, hs, hD⟩ := h1
    exact ⟨es, clock, (hW.block M hl).trans hb, Ft, hs, hD⟩
  have hg := rkeys_gives Fence.wide 1 trivial rfl (Nat.le_refl _) Bm M s D w hBm hm h1'
  rw [h2] at hg
  intro l J W' hW' hJ hY h0
  refine (hg l J W' hW' hJ hY h0).mono ?_
  rintro e W2 ⟨hv, ss, hk, hj⟩
  refine ⟨hv, ss, ⟨hk.1, fun x => ?_⟩, hj⟩
  constructor
  · intro hx
    have hw := bounds_u32 (hk.2.1 x hx)
    have hU : U32 x := ⟨hw.1, by have := hw.2; omega⟩
    exact ⟨hU, by rw [← (h3 x hU).1]; exact (hk.2.2 x).1 hx⟩
  · rintro ⟨hU, hs⟩
    exact (hk.2.2 x).2 (by rw [(h3 x hU).1]; exact hs)

set_option maxRecDepth 100000 in
set_option maxHeartbeats 2000000 in
/-- The destinations, rising. -/
theorem dests_any {me : Int} {T M : Nat} {f : Int → Option Nat} {g : Int → Value} {A : List Rt} {w : World} (h : MT me T M f g A w) :
    Calls Tryz.prog 95 #[.pointer (some ⟨T, 0, none⟩)] w fun e w' => ∃ v, e = .returned v ∧ w'.ownsRow w.heap.size 34 1 v A.length ((A.map (·.dest)).map encU) ∧ Below w.heap.size w w' := by
  obtain ⟨c0, c1⟩ := h.blk.cell
  have hb9 : Below w.heap.size w (w.alloc (.cells #[.map (some M)] 156)) := (Below.refl _ _).alloc (Nat.le_refl _) _
  have hseq := h.map.keyList (w.alloc (.cells #[.map (some M)] 156)) w.heap.size (by simp) (by simp) hb9
  have hso := sorted_any 170 #[.pointer (some ⟨w.heap.size, 0, none⟩)] (enters_of Tryz.func170 (by kernel_rfl) rfl) _ A.length (by have := h.len; omega) _ hseq
  have HSO := (show Hid _ from hso)
  clear hso hseq
  go_enter Tryz.func95, Tryz.ntmps95
  go_wp2_with fail
  refine (rkeys_any _ _).mono ?_
  rintro e w9 ⟨rfl, rfl⟩
  go_wp2_with fail
  refine Calls.mono HSO.out ?_
  rintro e W2 ⟨v, ts, ss, rfl, hS, hperm, hle, hlen, hrow, hb2⟩
  have hlts : ts.Pairwise (· < ·) := by
    have hnd : ts.Nodup := hperm.nodup_iff.2 hS.1
    rw [List.pairwise_iff_getElem] at hle ⊢
    intro i j hi hj hij
    have h1 := hle i j hi hj hij
    have h2 := List.pairwise_iff_getElem.1 hnd i j hi hj hij
    omega
  have hts : ts = A.map (·.dest) := by
    refine lt_unique hlts (by rw [List.pairwise_map]; exact h.asc) fun a => ?_
    rw [hperm.mem_iff, hS.2 a, List.mem_map]
    constructor
    · rintro ⟨hU, hs⟩
      obtain ⟨B, hB⟩ := Option.isSome_iff_exists.1 hs
      obtain ⟨x, hx, hxd⟩ := h.dom a B hU hB
      exact ⟨x, hx, hxd⟩
    · rintro ⟨x, hx, rfl⟩
      obtain ⟨B, hB, _⟩ := h.ln x hx
      exact ⟨(h.ok x hx).dest, by rw [hB]; rfl⟩
  subst hts
  have hbb := hb9.trans (hb2.mono (by simp))
  rw [List.length_map] at hrow
  have hrow' := ownsRow_base_a (base' := w.heap.size) hrow (by simp)
  clear HSO hS hperm hle hlen hrow hlts hb9 hb2
  go_wp2
  go_ret
  exact ⟨v, rfl, hrow', hbb⟩

/-- Lines as cells. -/
def rtC (p : Rt × Value) : List Value := [.int .u32 p.1.dest, .int .u32 p.1.seq, .int .i64 p.1.hops, .int .u32 p.1.next, .bool p.1.valid, .int .u64 p.1.exp, p.2]
def RtC (L : List (Rt × Value)) : List Value := L.flatMap rtC
theorem RtC_append (a b : List (Rt × Value)) : RtC (a ++ b) = RtC a ++ RtC b := by simp [RtC]
theorem RtC_at {L : List (Rt × Value)} {k : Nat} {p : Rt × Value} (h : L[k]? = some p) {i : Nat} (hi : i < 7) : (RtC L)[k * 7 + i]? = (rtC p)[i]? :=
  flat_at rtC 7 (by decide) (fun _ => rfl) L k i hi h
theorem info_rt : (Tryz.prog.info? 38).map (fun i => (i.zero, i.size, i.bytes)) = some (some (.agg #[.int .u32 0, .int .u32 0, .int .i64 0, .int .u32 0, .bool false, .int .u64 0, .slice none 0 0]), 7, 56) := by kernel_rfl
theorem one_rt (x : Rt) (a : Option Addr) (n c : Nat) : ∀ u ∈ RtC [(x, .slice a n c)], u.oneCell' = true := by
  intro u hu
  simp only [RtC, rtC, List.flatMap_cons, List.flatMap_nil, List.append_nil, List.mem_cons, List.not_mem_nil, or_false] at hu
  rcases hu with rfl | rfl | rfl | rfl | rfl | rfl | rfl <;> rfl
theorem cells_rt (W : World) (x : Rt) (v : Value) : ∀ (j : Nat) (u : Value), (RtC [(x, v)])[j]? = some u → (W.alloc (rtBox x v)).cell? ((⟨W.heap.size, 0, none⟩ : Addr).add j) = some u := by
  intro j u hj
  obtain ⟨q0, q1, q2, q3, q4, q5, q6⟩ := (LnB.new x v W).cell
  rw [Addr.add_lit, Nat.zero_add]
  simp only [RtC, rtC, List.flatMap_cons, List.flatMap_nil, List.append_nil] at hj
  match j, hj with
  | 0, hj => exact q0.trans hj
  | 1, hj => exact q1.trans hj
  | 2, hj => exact q2.trans hj
  | 3, hj => exact q3.trans hj
  | 4, hj => exact q4.trans hj
  | 5, hj => exact q5.trans hj
  | 6, hj => exact q6.trans hj
  | j + 7, hj => simp at hj
/-- A list of lines, laid: the row, and the rows of the neighbours. -/
structure LsR (base : Nat) (v : Value) (L : List (Rt × Value)) (W : World) : Prop where
  row : W.ownsRow base 38 7 v L.length (RtC L)
  bef : ∀ p ∈ L, W.ownsRow base 34 1 p.2 p.1.bef.length (p.1.bef.map encU)
theorem LsR.later {base : Nat} {v : Value} {L : List (Rt × Value)} {W W' : World} (h : LsR base v L W) (hb : Below W.heap.size W W') : LsR base v L W' :=
  ⟨step_append_kept h.row hb, fun p hp => step_append_kept (h.bef p hp) hb⟩

set_option maxRecDepth 100000 in
set_option maxHeartbeats 4000000 in
theorem List_any {me : Int} {T M : Nat} {f : Int → Option Nat} {g : Int → Value} {A : List Rt} {w : World} (h : MT me T M f g A w) :
    Calls Tryz.prog 60 #[.pointer (some ⟨T, 0, none⟩)] w fun e w' => ∃ v L, e = .returned v ∧ L.map (·.1) = A ∧ LsR w.heap.size v L w' ∧ Below w.heap.size w w' := by
  obtain ⟨i0, hi, hz0, hz1, hz2⟩ := info_parts info_rt
  have hlen := h.len
  have HD := (show Hid _ from dests_any h)
  go_enter Tryz.func60, Tryz.ntmps60
  go_wp2_with fail
  refine Calls.mono HD.out ?_
  rintro e w1 ⟨dv, rfl, hdr, hb1⟩
  clear HD
  obtain ⟨ad, cd, rfl, _⟩ := row_form hdr
  go_wp2_with fail
  go_loopw [3, 9] (fun lv i wr => ∃ (k : Nat) (L : List (Rt × Value)), k ≤ A.length ∧ i = .int .i64 k ∧ L.map (·.1) = A.take k ∧ LsR w.heap.size lv L wr ∧ wr.ownsRow w.heap.size 34 1 (.slice ad A.length cd) A.length ((A.map (·.dest)).map encU) ∧ Below w.heap.size w wr) (fun _ i _ => A.length - (intOf i).toNat)
  case atStart => exact ⟨0, [], Nat.zero_le _, rfl, rfl, ⟨⟨rfl, .inl ⟨rfl, rfl⟩⟩, fun p hp => by simp at hp⟩, hdr, hb1⟩
  case round =>
    clear hdr hb1
    obtain ⟨k, L, hk, rfl, hL, hls, hdr, hb⟩ := hrel
    have hLl : L.length = k := by
      have := congrArg List.length hL
      simp at this
      omega
    by_cases hlt : k < A.length
    · have hki : (k : Int) < (A.length : Int) := by omega
      obtain ⟨x, hx⟩ : ∃ x, A[k]? = some x := ⟨_, List.getElem?_eq_getElem hlt⟩
      have hxA := List.mem_of_getElem? hx
      obtain ⟨gd, capd, hv, _⟩ := row_shape' hdr (by omega)
      cases hv
      have d0 := (hdr.cellAt k (by omega)).trans (by rw [List.getElem?_map, List.getElem?_map, hx]; rfl : ((A.map (·.dest)).map encU)[k]? = some (encU x.dest))
      have hM := h.later hb
      obtain ⟨B, hB, hLn⟩ := hM.ln x hxA
      have hR := hM.row x hxA
      have hok := h.ok x hxA
      have hlk := hM.map.look hok.dest
      rw [hB] at hlk
      simp only [ptrOf] at hlk
      obtain ⟨t0, t1⟩ := hM.blk.cell
      have hx' := (show Hid _ from hx)
      have hL' := (show Hid _ from hL)
      clear hM hx hL
      go_wp2_with fail
      refine (handOut_any B x (g x.dest) hok.befs _ hLn hR).mono ?_
      rintro e w2 ⟨v', rfl, ho2, hb2⟩
      obtain ⟨ao2, c2', rfl, _⟩ := row_form ho2
      have hls2 := hls.later hb2
      have hdr2 := step_append_kept hdr hb2
      have hbb := hb.trans (hb2.mono hb.size)
      have ho2' := ownsRow_base_a ho2 hb.size
      clear hls hdr hb2 ho2 hLn hR hlk t0 t1 d0
      have hla := hls2.row.lt
      have hap : ∀ p ∈ L ++ [(x, Value.slice ao2 x.bef.length c2')], w2.ownsRow w.heap.size 34 1 p.2 p.1.bef.length (p.1.bef.map encU) := by
        intro p hp
        rcases List.mem_append.1 hp with hp | hp
        · exact hls2.bef p hp
        · rw [List.mem_singleton] at hp
          subst hp
          exact ho2'
      have hk1 : Hid (L.length + 1 ≤ maxLen) := by show _ ≤ _; unfold maxLen; omega
      have hk2 : Hid ((L.length + 1) * 56 ≤ 140737488355328) := by show _ ≤ _; omega
      have hr0 := hls2.row
      go_wp2_with (at_builtin; refine wpList_append_own_at _ rfl _ _ 31 rfl w.heap.size 38 i0 (.agg #[.int .u32 0, .int .u32 0, .int .i64 0, .int .u32 0, .bool false, .int .u64 0, .slice none 0 0]) 7 56 Tryz.underlying31 hi hz0 hz1 hz2 rfl (by decide) u3 L.length (RtC L) rfl (hr0.alloc _) ⟨w2.heap.size, 0, none⟩ 1 1 (RtC [(x, .slice ao2 x.bef.length c2')]) rfl rfl (cells_rt w2 x (.slice ao2 x.bef.length c2')) (one_rt x ao2 x.bef.length c2') hk1.out hk2.out ?c3 ?_)
      case c3 => have := hbb.size; simp; omega
      intro v3 w3 ho3 hg3 _ _
      have hb3 : Below w2.heap.size w2 (w2.alloc (rtBox x (.slice ao2 x.bef.length c2'))) := (Below.refl _ _).alloc (Nat.le_refl _) _
      have hls3 : LsR w.heap.size v3 (L ++ [(x, .slice ao2 x.bef.length c2')]) w3 := by
        refine ⟨by rw [List.length_append, RtC_append, hLl]; exact ho3, fun p hp => ?_⟩
        have h1 := step_append_kept (hap p hp) hb3
        exact h1.kept hg3 (rows_apart h1 (hr0.alloc _) (by decide))
      have hdr3 := (step_append_kept hdr2 hb3).kept hg3 (rows_apart (step_append_kept hdr2 hb3) (hr0.alloc _) (by decide))
      have hb4 := (hbb.trans (hb3.mono hbb.size)).grown hg3 (by have := hbb.size; simp; omega) (fun k e => (hla k e).1)
      clear hls2 hdr2 hbb hap ho2' ho3 hg3 hb3 hr0 hla
      go_wp2
      go_roundw
      case rel =>
        refine ⟨k + 1, L ++ [(x, .slice ao2 x.bef.length c2')], by omega, by go_num, ?_, hls3, hdr3, hb4⟩
        rw [List.map_append, hL'.out, List.take_add_one, hx'.out]
        rfl
      case measure => simp [intOf]; omega
    · have hkn : A.length ≤ k := by omega
      rw [List.take_of_length_le hkn] at hL
      clear hdr hkn
      go_wp2
      go_ret
      exact ⟨_, L, rfl, hL, hls, hb⟩
end Go.Proofs.YtakaadcpaeiccabGreat

namespace Go.Proofs.YtakaadcpaeiccabGreat
open Go.RowKit Go.Maps

/-- The first j lines turned. -/
def stepL (F : Rt → Rt) (j : Nat) (A : List Rt) : List Rt := (A.take j).map F ++ A.drop j
theorem stepL_zero (F : Rt → Rt) (A : List Rt) : stepL F 0 A = A := by simp [stepL]
theorem stepL_all (F : Rt → Rt) {A : List Rt} {j : Nat} (h : A.length ≤ j) : stepL F j A = A.map F := by
  unfold stepL
  rw [List.take_of_length_le h, List.drop_eq_nil_of_le h, List.append_nil]
theorem stepL_get (F : Rt → Rt) {A : List Rt} {j i : Nat} (hi : j ≤ i) : (stepL F j A)[i]? = A[i]? := by
  unfold stepL
  by_cases hj : j ≤ A.length
  · rw [List.getElem?_append_right (by simp; omega), List.getElem?_drop]
    congr 1
    simp
    omega
  · rw [List.getElem?_eq_none (by simp; omega), List.getElem?_eq_none (by omega)]
theorem stepL_set (F : Rt → Rt) {A : List Rt} {j : Nat} {x : Rt} (hx : A[j]? = some x) : (stepL F j A).set j (F x) = stepL F (j + 1) A := by
  obtain ⟨hj, rfl⟩ := List.getElem?_eq_some_iff.1 hx
  unfold stepL
  rw [List.set_append_right _ _ (by simp; omega), List.take_succ_eq_append_getElem hj, List.map_append, List.append_assoc]
  congr 1
  have h0 : j - ((A.take j).map F).length = 0 := by rw [List.length_map, List.length_take, Nat.min_eq_left (Nat.le_of_lt hj), Nat.sub_self]
  rw [h0, List.drop_eq_getElem_cons hj]
  rfl
/-- One line more, as a change of one line. -/
theorem stepL_mod (F : Rt → Rt) {A : List Rt} {j : Nat} {x : Rt} (hs : Asc (stepL F j A)) (hx : A[j]? = some x) : modL (stepL F j A) x.dest F = stepL F (j + 1) A := by
  rw [modL_set hs (by rw [stepL_get F (Nat.le_refl _)]; exact hx) rfl, stepL_set F hx]

/-- What Broken tells of a line. -/
def brkP (nxt : Int) (y : Rt) : Option (Int × Int) := if (y.valid && (y.next == nxt)) && decide (0 < y.bef.length) then some (y.dest, max (gr y.seq) 0) else none
def brkL (nxt : Int) (A : List Rt) : List (Int × Int) := A.filterMap (brkP nxt)
theorem brkL_snoc (nxt : Int) {A : List Rt} {k : Nat} {x : Rt} (h : A[k]? = some x) : brkL nxt (A.take (k + 1)) = brkL nxt (A.take k) ++ (brkP nxt x).toList := by
  unfold brkL
  rw [List.take_add_one, h, List.filterMap_append]
  congr 1
theorem brkL_length (nxt : Int) (A : List Rt) : (brkL nxt A).length ≤ A.length := List.length_filterMap_le _ _
/-- What is lost, as cells. -/
def LsC (L : List (Int × Int)) : List Value := L.flatMap fun x => [.int .u32 x.1, .int .u32 x.2]
theorem LsC_append (a b : List (Int × Int)) : LsC (a ++ b) = LsC a ++ LsC b := by simp [LsC]
theorem info_ls : (Tryz.prog.info? 237).map (fun i => (i.zero, i.size, i.bytes)) = some (some (.agg #[.int .u32 0, .int .u32 0]), 2, 8) := by kernel_rfl
theorem cells_ls (W : World) (d s : Int) : ∀ (j : Nat) (u : Value), (LsC [(d, s)])[j]? = some u → (W.alloc (.cells #[.int .u32 d, .int .u32 s] 237)).cell? ((⟨W.heap.size, 0, none⟩ : Addr).add j) = some u := by
  intro j u hj
  have h := heap_alloc_new W (.cells #[.int .u32 d, .int .u32 s] 237)
  rw [Addr.add_lit, Nat.zero_add]
  simp only [LsC, List.flatMap_cons, List.flatMap_nil, List.append_nil] at hj
  match j, hj with
  | 0, hj => exact (cell_of_row _ _ 0 _ _ _ h).trans hj
  | 1, hj => exact (cell_of_row _ _ 1 _ _ _ h).trans hj
  | j + 2, hj => simp at hj
theorem one_ls (d s : Int) : ∀ u ∈ LsC [(d, s)], u.oneCell' = true := by
  intro u hu
  simp only [LsC, List.flatMap_cons, List.flatMap_nil, List.append_nil, List.mem_cons, List.not_mem_nil, or_false] at hu
  rcases hu with rfl | rfl <;> rfl
theorem fx_row {S : Nat → Prop} {w W W' : World} {e size n : Nat} {v : Value} {cs : List Value} (h : W.ownsRow w.heap.size e size v n cs) (hS : ∀ k, S k → k < w.heap.size) {B : Nat} (hB : S B) (hg : W.grownBy W' (some B)) : W'.ownsRow w.heap.size e size v n cs :=
  row_at h fun k hk => hg.block k (h.lt k hk).2 (fun e => by
    have h1 := (h.lt k hk).1
    have h2 := hS _ hB
    have h3 : B = k := by injection e with e; exact e.symm
    omega)

set_option maxRecDepth 100000 in
set_option maxHeartbeats 4000000 in
theorem Broken_any {me : Int} {T M : Nat} {f : Int → Option Nat} {g : Int → Value} {A : List Rt} {S : Nat → Prop} (nxt : Int) {w : World} (h : MT me T M f g A w) (hS : ∀ k, TIn T M f g A k → S k) (hSb : ∀ k, S k → k < w.heap.size) :
    Calls Tryz.prog 138 #[.pointer (some ⟨T, 0, none⟩), .int .u32 nxt] w fun e w' => ∃ v g', e = .returned v ∧ w'.ownsRow w.heap.size 237 2 v (brkL nxt A).length (LsC (brkL nxt A)) ∧ MT me T M f g' (A.map (loseF nxt 0)) w' ∧ (∀ k, TIn T M f g' (A.map (loseF nxt 0)) k → S k) ∧ Fx S w w' := by
  obtain ⟨i0, hi, hz0, hz1, hz2⟩ := info_parts info_ls
  have hlen := h.len
  have HD := (show Hid _ from dests_any h)
  have hok0 := h.ok
  go_enter Tryz.func138, Tryz.ntmps138
  go_wp2_with fail
  refine Calls.mono HD.out ?_
  rintro e w1 ⟨dv, rfl, hdr, hb1⟩
  clear HD
  obtain ⟨ad, cd, rfl, _⟩ := row_form hdr
  have h1 := h.later hb1
  go_wp2_with fail
  go_loopw [5, 13] (fun lv i wr => ∃ (k : Nat) (g' : Int → Value), k ≤ A.length ∧ i = .int .i64 k ∧ MT me T M f g' (stepL (loseF nxt 0) k A) wr ∧ (∀ q, TIn T M f g' (stepL (loseF nxt 0) k A) q → S q) ∧ wr.ownsRow w.heap.size 237 2 lv (brkL nxt (A.take k)).length (LsC (brkL nxt (A.take k))) ∧ wr.ownsRow w.heap.size 34 1 (.slice ad A.length cd) A.length ((A.map (·.dest)).map encU) ∧ Fx S w wr) (fun _ i _ => A.length - (intOf i).toNat)
  case atStart =>
    refine ⟨0, g, Nat.zero_le _, rfl, ?_, ?_, ⟨rfl, .inl ⟨rfl, rfl⟩⟩, hdr, Fx.below hb1⟩
    · rw [stepL_zero]; exact h1
    · rw [stepL_zero]; exact hS
  case round =>
    clear hdr hb1 h1
    obtain ⟨k, g', hk, rfl, hM, hMS, hls, hdr, hfx⟩ := hrel
    by_cases hlt : k < A.length
    · have hki : (k : Int) < (A.length : Int) := by omega
      obtain ⟨x, hx⟩ : ∃ x, A[k]? = some x := ⟨_, List.getElem?_eq_getElem hlt⟩
      have hxA := List.mem_of_getElem? hx
      obtain ⟨gd, capd, hv, _⟩ := row_shape' hdr (by omega)
      cases hv
      have d0 := (hdr.cellAt k (by omega)).trans (by rw [List.getElem?_map, List.getElem?_map, hx]; rfl : ((A.map (·.dest)).map encU)[k]? = some (encU x.dest))
      have hxs : (stepL (loseF nxt 0) k A)[k]? = some x := by rw [stepL_get _ (Nat.le_refl _)]; exact hx
      have hxM := List.mem_of_getElem? hxs
      have hok := hok0 x hxA
      have hl := lineOf_mem hM.asc hxM
      obtain ⟨B, hB, hLn⟩ := hM.ln x hxM
      have hR := hM.row x hxM
      have hlk := hM.map.look hok.dest
      rw [hB] at hlk
      simp only [ptrOf] at hlk
      obtain ⟨t0, t1⟩ := hM.blk.cell
      obtain ⟨c0, c1, c2, c3, c4, c5, c6⟩ := hLn.cell
      obtain ⟨av, cv, hgv, _⟩ := row_form hR
      have hrB := hM.rowB hl hB
      rw [hgv] at c6
      have hsn := brkL_snoc nxt hx
      have hmod := stepL_mod (loseF nxt 0) hM.asc hx
      have hSB : S B := hMS B (hM.inB hl hB)
      have hSn := (show Hid _ from hsn)
      have hMod := (show Hid _ from hmod)
      clear hsn hmod hx hxs
      by_cases hvn : (x.valid && (x.next == nxt)) = true
      · have hxv : x.valid = true := by revert hvn; cases x.valid <;> simp
        have hxn : (x.next == nxt) = true := by revert hvn; cases x.valid <;> simp
        have hF : loseF nxt 0 x = endR x 0 := by unfold loseF; rw [if_pos hvn]
        rw [hxv] at c4
        have hel : x.next = nxt := by simpa using hxn
        have hpre : Hid (∀ w' : World, LnB B (endR x 0) (.slice none 0 0) w' → wr.grownBy w' (some B) → ∃ g2, MT me T M f g2 (stepL (loseF nxt 0) (k + 1) A) w' ∧ (∀ q, TIn T M f g2 (stepL (loseF nxt 0) (k + 1) A) q → S q)) := by
          intro w' hL' hg
          have ht := hM.turn (W' := w') hl hB (loseF nxt 0) (loseF_dest nxt 0) (by rw [hF]; exact endR_ok hok (by simp [U32])) (.slice none 0 0) (by rw [hF]; exact hL') (by rw [hF]; exact ⟨rfl, .inl ⟨rfl, rfl⟩⟩) (.inl rfl) (fun q hq hqB _ => hg.block q (hM.lt hq) (fun e => hqB (by cases e; rfl)))
          rw [hMod.out] at ht
          refine ⟨_, ht.1, fun q hq => ?_⟩
          rcases ht.2 q hq with h3 | h3
          · exact hMS q h3
          · cases h3
        have HE := (show Hid _ from end_any B x (g' x.dest) 0 wr hLn)
        clear hM hMS hR
        by_cases hbf : 0 < x.bef.length
        · have hbp : brkP nxt x = some (x.dest, max (gr x.seq) 0) := by
            unfold brkP
            rw [hvn, decide_eq_true hbf]
            rfl
          rw [hbp] at hSn
          have hd1 : decide (0 < (x.bef.length : Int)) = true := decide_eq_true (by omega)
          have hd2 : decide (0 < x.bef.length) = true := decide_eq_true hbf
          go_wp2_with fail
          refine Calls.mono HE.out ?_
          rintro e w2 ⟨rfl, hL2, hg2⟩
          obtain ⟨g2, hM2, hMS2⟩ := hpre.out w2 hL2 hg2
          have hls2 := fx_row hls hSb hSB hg2
          have hdr2 := fx_row hdr hSb hSB hg2
          have hfx2 := hfx.trans (Fx.grown (S := S) hg2 (fun q e => by cases e; exact hSB)) (fun _ _ h => h)
          clear HE hpre c0 c1 c2 c3 c4 c5 c6 hLn hls hdr hfx t0 t1 hlk d0 hg2
          obtain ⟨_, c1, _⟩ := hL2.cell
          have hla := hls2.lt
          have hk1 : Hid ((brkL nxt (A.take k)).length + 1 ≤ maxLen) := by
            show _ ≤ _
            have := brkL_length nxt (A.take k)
            simp at this
            unfold maxLen
            omega
          have hk2 : Hid (((brkL nxt (A.take k)).length + 1) * 8 ≤ 140737488355328) := by
            show _ ≤ _
            have := brkL_length nxt (A.take k)
            simp at this
            omega
          have hsz := hfx2.size
          have c1' : w2.cell? ⟨B, 1, none⟩ = some (.int .u32 (max (gr x.seq) 0)) := c1
          generalize max (gr x.seq) 0 = qs at hSn c1'
          clear c1 hL2
          go_wp2_with (at_builtin; refine wpList_append_own_at _ rfl _ _ 71 rfl w.heap.size 237 i0 (.agg #[.int .u32 0, .int .u32 0]) 2 8 Tryz.underlying71 hi hz0 hz1 hz2 rfl (by decide) u5 (brkL nxt (A.take k)).length (LsC (brkL nxt (A.take k))) rfl (hls2.alloc _) ⟨w2.heap.size, 0, none⟩ 1 1 (LsC [(x.dest, qs)]) rfl rfl (cells_ls w2 x.dest qs) (one_ls x.dest qs) hk1.out hk2.out ?c3 ?_)
          case c3 => simp; omega
          intro v3 w3 ho3 hg3 _ _
          have hb3 : Below w2.heap.size w2 (w2.alloc (.cells #[.int .u32 x.dest, .int .u32 qs] 237)) := (Below.refl _ _).alloc (Nat.le_refl _) _
          have hdr3 := (step_append_kept hdr2 hb3).kept hg3 (rows_apart (step_append_kept hdr2 hb3) (hls2.alloc _) (by decide))
          have hM3 := (hM2.later hb3).kept (W' := w3) (fun q hq => hg3.block q ((hM2.later hb3).lt hq) (fun e => by have := (hla q e.symm).1; have := hSb q (hMS2 q hq); omega))
          have hfx3 : Fx S w w3 := (hfx2.trans (Fx.below (S := S) hb3) (fun _ _ h => h)).trans (Fx.grown (S := fun q => w.heap.size ≤ q) hg3 (fun q e => (hla q e).1)) (fun q hq hq' => by omega)
          clear hls2 hdr2 hfx2 hM2 hg3 hb3 hla
          go_wp2
          go_roundw
          case rel =>
            refine ⟨k + 1, g2, by omega, by go_num, hM3, hMS2, ?_, hdr3, hfx3⟩
            rw [hSn.out, Option.toList_some, LsC_append, List.length_append]
            exact ho3
          case measure => simp [intOf]; omega
        · have hbp : brkP nxt x = none := by
            unfold brkP
            rw [decide_eq_false hbf, Bool.and_false]
            rfl
          rw [hbp, Option.toList_none, List.append_nil] at hSn
          have hd1 : decide (0 < (x.bef.length : Int)) = false := decide_eq_false (by omega)
          have hd2 : decide (0 < x.bef.length) = false := decide_eq_false hbf
          go_wp2_with fail
          refine Calls.mono HE.out ?_
          rintro e w2 ⟨rfl, hL2, hg2⟩
          obtain ⟨g2, hM2, hMS2⟩ := hpre.out w2 hL2 hg2
          have hls2 := fx_row hls hSb hSB hg2
          have hdr2 := fx_row hdr hSb hSB hg2
          have hfx2 := hfx.trans (Fx.grown (S := S) hg2 (fun q e => by cases e; exact hSB)) (fun _ _ h => h)
          clear HE hpre c0 c1 c2 c3 c4 c5 c6 hLn hls hdr hfx t0 t1 hlk d0 hg2
          go_wp2
          go_roundw
          case rel =>
            refine ⟨k + 1, g2, by omega, by go_num, hM2, hMS2, ?_, hdr2, hfx2⟩
            rw [hSn.out]
            exact hls2
          case measure => simp [intOf]; omega
      · have hF : loseF nxt 0 x = x := by unfold loseF; rw [if_neg hvn]
        have hbp : brkP nxt x = none := by
          unfold brkP
          rw [Bool.not_eq_true _ |>.mp hvn, Bool.false_and]
          rfl
        rw [hbp, Option.toList_none, List.append_nil] at hSn
        have hst : stepL (loseF nxt 0) (k + 1) A = stepL (loseF nxt 0) k A := by
          rw [← hMod.out]
          exact modL_id hM.asc fun y hy => by
            rw [hl] at hy
            cases hy
            exact hF
        have hSt := (show Hid _ from hst)
        clear hst
        cases hxv : x.valid
        · rw [hxv] at c4
          clear hvn hxv
          go_wp2
          go_roundw
          case rel => exact ⟨k + 1, g', by omega, by go_num, by rw [hSt.out]; exact hM, by rw [hSt.out]; exact hMS, by rw [hSn.out]; exact hls, hdr, hfx⟩
          case measure => simp [intOf]; omega
        · rw [hxv] at c4
          have hxn : (x.next == nxt) = false := by
            rw [hxv, Bool.true_and] at hvn
            simpa using hvn
          clear hvn hxv
          go_wp2
          go_roundw
          case rel => exact ⟨k + 1, g', by omega, by go_num, by rw [hSt.out]; exact hM, by rw [hSt.out]; exact hMS, by rw [hSn.out]; exact hls, hdr, hfx⟩
          case measure => simp [intOf]; omega
    · have hkn : A.length ≤ k := by omega
      rw [List.take_of_length_le hkn] at hls
      rw [stepL_all _ hkn] at hM hMS
      clear hdr hkn
      go_wp2
      go_ret
      exact ⟨_, g', rfl, hls, hM, hMS, hfx⟩
end Go.Proofs.YtakaadcpaeiccabGreat

namespace Go.Proofs.YtakaadcpaeiccabGreat
open Go.RowKit Go.Maps

def expP (now : Int) (y : Rt) : Bool := y.valid && decide (y.exp ≤ now)
def expF (now : Int) (y : Rt) : Rt := if expP now y then endR y 0 else y
theorem expF_dest (now : Int) (y : Rt) : (expF now y).dest = y.dest := by
  unfold expF
  split <;> rfl
def expL (A : List Rt) (now : Int) : List Rt := A.map (expF now)
/-- The lines that the walk has met are turned. -/
def metL (left : Lit → Bool) (now : Int) (A : List Rt) : List Rt := A.map fun y => if left (.int .u32 y.dest) then y else expF now y
theorem metL_step {left : Lit → Bool} {x : Int} (h : left (.int .u32 x) = true) (now : Int) (A : List Rt) : modL (metL left now A) x (expF now) = metL (fun z => left z && !z.sameKey (.int .u32 x)) now A := by
  unfold modL metL
  rw [List.map_map]
  refine List.map_congr_left fun y _ => ?_
  by_cases e : y.dest = x
  · subst e
    simp [h, Lit.sameKey]
  · by_cases hl : left (.int .u32 y.dest) = true
    · simp [hl, e, Lit.sameKey]
    · simp [hl, e, Lit.sameKey, expF_dest]
theorem metL_line {left : Lit → Bool} {A : List Rt} {y : Rt} (hy : y ∈ A) (h : left (.int .u32 y.dest) = true) (now : Int) : y ∈ metL left now A :=
  List.mem_map.2 ⟨y, hy, by simp [h]⟩

theorem ptrR_shape {v : Value} {y : DataW Unit × List MemPlace} (h : ptrR v = some y) : ∃ c : Option Nat, v = ptrOf c := by
  unfold ptrR at h
  split at h
  · exact ⟨none, rfl⟩
  · exact ⟨some _, rfl⟩
  · cases h

set_option maxRecDepth 100000 in
set_option maxHeartbeats 4000000 in
theorem Expire_any {me : Int} {T M : Nat} {f : Int → Option Nat} {g : Int → Value} {A : List Rt} {S : Nat → Prop} (now : Int) {w : World} (h : MT me T M f g A w) (hS : ∀ k, TIn T M f g A k → S k) (hSb : ∀ k, S k → k < w.heap.size) :
    Calls Tryz.prog 76 #[.pointer (some ⟨T, 0, none⟩), .int .u64 now] w fun e w' => ∃ g', e = .returned (.tuple #[]) ∧ MT me T M f g' (expL A now) w' ∧ (∀ k, TIn T M f g' (expL A now) k → S k) ∧ Fx S w w' := by
  obtain ⟨D, h1, h2, h3⟩ := h.map
  obtain ⟨t0, t1⟩ := h.blk.cell
  have hok0 := h.ok
  have hdom0 := h.dom
  have h3' := (show Hid _ from h3)
  have hhas : ∀ y ∈ A, has D (.int .u32 y.dest) = true := fun y hy => by
    obtain ⟨B, hB, _⟩ := h.ln y hy
    rw [(h3 _ (hok0 y hy).dest).1, hB]
    rfl
  have hst : metL (has D) now A = A := by
    unfold metL
    conv => rhs; rw [← List.map_id A]
    exact List.map_congr_left fun y hy => by simp [hhas y hy]
  have hSt := (show Hid _ from hst)
  clear h3 hst
  go_enter Tryz.func76, Tryz.ntmps76
  go_wp2_with (at_range; refine wpList_range_own _ rfl _ 156 rfl 34 161 tu_law Tryz.underlying156 _ M A.length _ rfl h1 ?_; intro w0 hrg0 hg0 hs0)
  go_frame
  go_loopw [5] (fun _ wr => ∃ (left : Lit → Bool) (cnt : Nat) (g' : Int → Value), wr.ranges Tryz.prog 34 ptrR M w.heap.size A.length D left cnt ∧ MT me T M f g' (metL left now A) wr ∧ (∀ q, TIn T M f g' (metL left now A) q → S q) ∧ Fx S w wr)
    (fun _ wr => wr.rangeLeft M w.heap.size)
  case atStart =>
    have hb : Below w.heap.size w w0 := ⟨hg0.os, hg0.tape, hg0.output, hg0.size, fun k hk => hg0.block k hk (by simp)⟩
    refine ⟨_, _, g, hrg0, ?_, ?_, Fx.below hb⟩
    · rw [hSt.out]; exact h.later hb
    · rw [hSt.out]; exact hS
  case round =>
    clear h h1 hg0 hs0 hrg0 t0 t1
    obtain ⟨left, cnt, g', hrg, hM, hMS, hfx⟩ := hrel
    go_wp2_with (at_next; refine wpList_next_ranges _ rfl _ rfl 34 tu_law ptrR encU ptrOf (fun key kl hk => by obtain ⟨x, hx, _⟩ := keyOf_u32 Tryz.underlying34 hk; exact ⟨x, hx⟩) (fun v y hv => ptrR_shape hv) M w.heap.size A.length _ _ _ rfl hrg ?_ ?_)
    · intro hc0 hl0
      have hall : metL left now A = expL A now := by
        unfold metL expL
        exact List.map_congr_left fun y _ => by simp [hl0]
      rw [hall] at hM hMS
      clear hall
      go_wp2
      go_end0
      exact ⟨g', rfl, hM, hMS, hfx⟩
    · intro x c kl yd yp w2 cnt2 hkey hlk hv hat hrg2 hlt hg2 hs2 hen
      obtain ⟨x', ex, rfl, hwf⟩ := keyOf_u32 Tryz.underlying34 hkey
      obtain rfl : x = x' := encU_inj ex
      clear ex hkey
      have hb := bounds_u32 hwf
      have hxu : U32 x := ⟨hb.1, by have := hb.2; omega⟩
      have h3x := (h3'.out x hxu).2
      rw [hat] at h3x
      rw [ptrR_of] at hv
      have hcl : litOf c = litOf (f x) := by
        have e1 := congrArg Prod.fst (Option.some.inj hv)
        rw [h3x] at e1
        simpa using e1
      have hsome := (h3'.out x hxu).1
      rw [has_true_of_atKey hat] at hsome
      obtain ⟨B, hB⟩ := Option.isSome_iff_exists.1 hsome.symm
      have hc : c = some B := by
        rw [hB] at hcl
        cases c with
        | none => simp [litOf] at hcl
        | some c =>
          simp only [litOf] at hcl
          exact congrArg some (by omega)
      subst hc
      simp only [ptrOf] at hen ⊢
      obtain ⟨y, hyA, rfl⟩ := hdom0 x B hxu hB
      have hyM := metL_line hyA hlk now
      have hM2 : MT me T M f g' (metL left now A) w2 := hM.kept (fun q hq => hg2.block q (hM.lt hq) (fun e => by
        have h4 := hSb q (hMS q hq)
        have h5 : w.heap.size = q := by injection e with e; exact e.symm
        omega))
      have hfx2 : Fx S w w2 := hfx.trans (Fx.grown (S := fun q => w.heap.size ≤ q) hg2 (fun q e => by cases e; exact Nat.le_refl _)) (fun q hq hq' => by omega)
      have hl := lineOf_mem hM2.asc hyM
      have hLn : LnB B y (g' y.dest) w2 := by
        obtain ⟨B', hB', hL⟩ := hM2.ln y hyM
        rw [hB] at hB'
        cases hB'
        exact hL
      have hSB : S B := hMS B (hM.inB hl hB)
      have hmod := metL_step hlk now A
      have hMod := (show Hid _ from hmod)
      have hlq := hrg.left_eq
      have hme := (show Hid (cnt2 < wr.rangeLeft M w.heap.size) from by show _ < _; rw [hlq]; exact hlt)
      obtain ⟨c0, c1, c2, c3, c4, c5, c6⟩ := hLn.cell
      clear hs2 hmod hat hv hcl h3x hsome hM hfx hrg hlq hlt hlk hb hwf
      by_cases hex : expP now y = true
      · have hF : expF now y = endR y 0 := if_pos hex
        have hyv : y.valid = true := by unfold expP at hex; revert hex; cases y.valid <;> simp
        have hye : decide (y.exp ≤ now) = true := by unfold expP at hex; revert hex; cases y.valid <;> simp
        rw [hyv] at c4
        have HE := (show Hid _ from end_any B y (g' y.dest) 0 w2 hLn)
        go_wp2_with fail
        refine Calls.mono HE.out ?_
        rintro e w3 ⟨rfl, hL3, hg3⟩
        have ht := hM2.turn (W' := w3) hl hB (expF now) (expF_dest now) (by rw [hF]; exact endR_ok (hok0 y hyA) (by simp [U32])) (.slice none 0 0) (by rw [hF]; exact hL3) (by rw [hF]; exact ⟨rfl, .inl ⟨rfl, rfl⟩⟩) (.inl rfl) (fun q hq hqB _ => hg3.block q (hM2.lt hq) (fun e => hqB (by cases e; rfl)))
        rw [hMod.out] at ht
        have hrg3 := hrg2.of_walks (KeepsWalks.of_grownBy hg3 (fun j o e ho => by
          cases e
          rw [show w2.heap[B]? = _ from hLn] at ho
          cases ho
          rfl))
        have hfx3 : Fx S w w3 := hfx2.trans (Fx.grown (S := S) hg3 (fun q e => by cases e; exact hSB)) (fun _ _ h => h)
        have hmS : ∀ q, TIn T M f _ _ q → S q := fun q hq => by
          rcases ht.2 q hq with h4 | h4
          · exact hMS q h4
          · cases h4
        have hM3 := ht.1
        clear HE c0 c1 c2 c3 c4 c5 c6 hLn hg3 hg2 hM2 hrg2 hfx2 ht hL3
        go_wp2
        go_roundw
        case rel => exact ⟨_, cnt2, _, hrg3, hM3, hmS, hfx3⟩
        case measure => rw [hrg3.left_eq]; exact hme.out
      · have hF : expF now y = y := if_neg hex
        have hid : metL left now A = metL (fun z => left z && !z.sameKey (.int .u32 y.dest)) now A := by
          rw [← hMod.out]
          exact (modL_id hM2.asc fun z hz => by
            rw [hl] at hz
            cases hz
            exact hF).symm
        rw [hid] at hM2 hMS
        clear hid
        cases hyv : y.valid
        · rw [hyv] at c4
          go_wp2
          go_roundw
          case rel => exact ⟨_, cnt2, g', hrg2, hM2, hMS, hfx2⟩
          case measure => rw [hrg2.left_eq]; exact hme.out
        · rw [hyv] at c4
          have hye : decide (y.exp ≤ now) = false := by
            unfold expP at hex
            rw [hyv, Bool.true_and] at hex
            simpa using hex
          go_wp2
          go_roundw
          case rel => exact ⟨_, cnt2, g', hrg2, hM2, hMS, hfx2⟩
          case measure => rw [hrg2.left_eq]; exact hme.out
end Go.Proofs.YtakaadcpaeiccabGreat

namespace Go.Proofs.YtakaadcpaeiccabGreat
open Go.RowKit

/-- 'append' onto a row of the call's own, as one step of a region that draws its order. -/
theorem step_append_own {P : Program} {ops : Array Oper} {o : Oper} {a : Act} {w : World} {K : Act → World → Prop} {Q : Exit → Act → World → Prop} {E : Prop}
    (hg : o.guard = none) (s x : Operand) (t : TypeId) (hop : o.op = Op.call { callee := Callee.builtin Builtin.append, args := #[s, x], argTypes := #[t, t] })
    (base : Nat) (e : TypeId) (i : TypeInfo) (z : Value) (size bytes : Nat) (h1 : P.underlying t = some (.slice e)) (h2 : P.info? e = some i) (h3 : i.zero = some z) (h4 : i.size = size) (h5 : i.bytes = bytes) (h6 : z.cells.size = size) (h7 : 0 < size)
    (v : Value) (n : Nat) (xs : List Value) (hs : a.eval s = v) (hown : w.ownsRow base e size v n xs)
    (ad : Addr) (m c : Nat) (news : List Value) (hx : a.eval x = .slice (some ad) m c) (hn : news.length = m * size) (hc : ∀ j u, news[j]? = some u → w.cell? (ad.add j) = some u) (h1c : ∀ u ∈ news, u.oneCell' = true)
    (b1 : n + m ≤ maxLen) (b2 : (n + m) * bytes ≤ 140737488355328) (hbase : base ≤ w.heap.size)
    (hK : ∀ v' w', w'.ownsRow base e size v' (n + m) (xs ++ news) → w.grownBy w' v.ownBlock → K (a.put o.dst v') w') :
    if Region.wanted o (yielded ops a.tmps) = true then Oper.wp P o a w K Q else E := by
  have hw : Region.wanted o (yielded ops a.tmps) = true := by simp [Region.wanted, hg]
  rw [if_pos hw]
  obtain ⟨v', w', hrun, r1, r2, _⟩ := run_append_own (P := P) w base t o.type e i z size bytes h1 h2 h3 h4 h5 h6 h7 v n xs hown ad m c news hn hc h1c b1 b2 hbase
  unfold Oper.wp
  simp [execOp, hop, resolve, invoke, builtin, hs, hx, hrun, Result.andThen]
  exact hK v' w' r1 r2
/-- 'append' onto a row of the call's own, as one step of a region that draws its order; and where the new row lies. -/
theorem step_append_at {P : Program} {ops : Array Oper} {o : Oper} {a : Act} {w : World} {K : Act → World → Prop} {Q : Exit → Act → World → Prop} {E : Prop}
    (hg : o.guard = none) (s x : Operand) (t : TypeId) (hop : o.op = Op.call { callee := Callee.builtin Builtin.append, args := #[s, x], argTypes := #[t, t] })
    (base : Nat) (e : TypeId) (i : TypeInfo) (z : Value) (size bytes : Nat) (h1 : P.underlying t = some (.slice e)) (h2 : P.info? e = some i) (h3 : i.zero = some z) (h4 : i.size = size) (h5 : i.bytes = bytes) (h6 : z.cells.size = size) (h7 : 0 < size)
    (v : Value) (n : Nat) (xs : List Value) (hs : a.eval s = v) (hown : w.ownsRow base e size v n xs)
    (ad : Addr) (m c : Nat) (news : List Value) (hx : a.eval x = .slice (some ad) m c) (hn : news.length = m * size) (hc : ∀ j u, news[j]? = some u → w.cell? (ad.add j) = some u) (h1c : ∀ u ∈ news, u.oneCell' = true)
    (b1 : n + m ≤ maxLen) (b2 : (n + m) * bytes ≤ 140737488355328) (hbase : base ≤ w.heap.size)
    (hK : ∀ v' w', w'.ownsRow base e size v' (n + m) (xs ++ news) → w.grownBy w' v.ownBlock → (v'.ownBlock = v.ownBlock ∨ v'.ownBlock = some w.heap.size) → K (a.put o.dst v') w') :
    if Region.wanted o (yielded ops a.tmps) = true then Oper.wp P o a w K Q else E := by
  have hw : Region.wanted o (yielded ops a.tmps) = true := by simp [Region.wanted, hg]
  rw [if_pos hw]
  obtain ⟨v', w', hrun, r1, r2, _, r3⟩ := run_append_own_at (P := P) w base t o.type e i z size bytes h1 h2 h3 h4 h5 h6 h7 v n xs hown ad m c news hn hc h1c b1 b2 hbase
  unfold Oper.wp
  simp [execOp, hop, resolve, invoke, builtin, hs, hx, hrun, Result.andThen]
  exact hK v' w' r1 r2 r3
end Go.Proofs.YtakaadcpaeiccabGreat
