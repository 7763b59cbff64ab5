import Derived.Test.YtakaadcpaeiccabGreatC19
import Derived.Test.YtakaadcpaeiccabGreatC05
namespace Go.Proofs.YtakaadcpaeiccabGreat
open Go.RowKit

theorem num_drop (xs : List Int) (k : Nat) {a b c d : Int} {ys : List Int} (h : xs.drop (4 * k) = a :: b :: c :: d :: ys) : num xs k = n4 a b c d := by
  have g : ∀ i x, (a :: b :: c :: d :: ys)[i]? = some x → xs.getD (4 * k + i) 0 = x := by
    intro i x hx
    rw [← h, List.getElem?_drop] at hx
    simp [List.getD, hx]
  unfold num
  rw [show 4 * k = 4 * k + 0 from rfl, g 0 a rfl, g 1 b rfl, g 2 c rfl, g 3 d rfl]

theorem plOf_succ (k : Nat) (xs : List Int) : plOf (k + 1) xs = plOf k xs ++ [(num xs (2 * k), num xs (2 * k + 1))] := by
  simp [plOf, List.range_succ]
theorem LC_append (a b : List (Int × Int)) : LC (a ++ b) = LC a ++ LC b := by simp [LC]
theorem plOf_length (k : Nat) (xs : List Int) : (plOf k xs).length = k := by simp [plOf]

theorem set_two (A : List Value) (u v x y : Value) (T : List Value) : ((A ++ u :: v :: T).set A.length x).set (A.length + 1) y = A ++ [x, y] ++ T := by
  simp [List.set_append_right]

theorem made_u32 (m : Nat) : ∀ v ∈ (madeCells #[Value.int .u32 0, Value.int .u32 0] m).toList, ∃ z, v = .int .u32 z := by
  intro v hv
  simp only [madeCells, Array.toList_map, List.mem_map] at hv
  obtain ⟨i, _, rfl⟩ := hv
  rcases Nat.mod_two_eq_zero_or_one i with h | h <;> simp [h]

def LostP (R n : Nat) (xs : List Int) (W : World) (e : Ending) (w' : World) : Prop :=
  W.grownBy w' (some R) ∧ ((8 * n ≤ xs.length ∧ (∃ g, W.heap.size ≤ g ∧ e = .returned (.slice (some ⟨g, 0, none⟩) n n) ∧ HoldsA w' (some ⟨g, 0, none⟩) (plOf n xs)) ∧ Rd R (xs.drop (8 * n)) w') ∨ (xs.length < 8 * n ∧ e = .panicked broken))

theorem HoldsA.ofOwn {W : World} {base g n cap : Nat} {L : List (Int × Int)} (h : W.ownsRow base 237 2 (.slice (some ⟨g, 0, none⟩) n cap) n (LC L)) (hb : ∀ x ∈ L, 0 ≤ x.1 ∧ x.1 < 4294967296 ∧ 0 ≤ x.2 ∧ x.2 < 4294967296) : HoldsA W (some ⟨g, 0, none⟩) L := by
  have hl := h.1
  rw [LC_length] at hl
  have hlt : g < W.heap.size := by
    rcases h.2 with ⟨hh, _⟩ | ⟨g', _, _, hh, _, hg, _⟩
    · simp at hh
    · simp only [Value.slice.injEq, Option.some.injEq, Addr.mk.injEq, and_true] at hh
      obtain ⟨rfl, _⟩ := hh
      exact (Array.getElem?_eq_some_iff.1 hg).1
  intro j hj
  have hx := hb _ (List.getElem_mem hj)
  have hg := LC_get L j
  rw [List.getElem?_eq_getElem hj] at hg
  refine ⟨g, 0, L[j].1, L[j].2, rfl, hlt, List.getElem?_eq_getElem hj, hx.1, hx.2.1, hx.2.2.1, hx.2.2.2, ?_, ?_⟩
  · rw [Nat.zero_add, h.cellAt (j * 2) (by omega), hg.1]; rfl
  · rw [Nat.zero_add, h.cellAt (j * 2 + 1) (by omega), hg.2]; rfl

theorem num_b {xs : List Int} (h : ∀ x ∈ xs, 0 ≤ x ∧ x ≤ 255) (i : Nat) : 0 ≤ num xs i ∧ num xs i < 4294967296 := by
  have g : ∀ j, 0 ≤ xs.getD j 0 ∧ xs.getD j 0 ≤ 255 := by
    intro j
    rcases Nat.lt_or_ge j xs.length with hj | hj
    · have := h _ (List.getElem_mem hj)
      simpa [List.getD, List.getElem?_eq_getElem hj] using this
    · simp [List.getD, List.getElem?_eq_none hj]
  exact n4_b (g _) (g _) (g _) (g _)
theorem plOf_b {xs : List Int} (h : ∀ x ∈ xs, 0 ≤ x ∧ x ≤ 255) (n : Nat) : ∀ x ∈ plOf n xs, 0 ≤ x.1 ∧ x.1 < 4294967296 ∧ 0 ≤ x.2 ∧ x.2 < 4294967296 := by
  intro x hx
  simp only [plOf, List.mem_map] at hx
  obtain ⟨i, _, rfl⟩ := hx
  have a := num_b h (2 * i)
  have b := num_b h (2 * i + 1)
  exact ⟨a.1, a.2, b.1, b.2⟩

set_option maxRecDepth 100000 in
set_option maxHeartbeats 4000000 in
theorem lost_any (R n : Nat) (hn : n ≤ 255) (xs : List Int) (W : World) (h : Rd R xs W) :
    Calls Tryz.prog 88 #[.pointer (some ⟨R, 0, none⟩), .int .i64 n] W fun e w' => LostP R n xs W e w' := by
  obtain ⟨i0, hi, hz0, hz1, hz2⟩ := info_parts info_lost
  have hR := h.lt
  have hby := h.bytes
  go_enter Tryz.func88, Tryz.ntmps88
  go_wp2_with (at_make; refine wpList_make_full _ rfl _ _ 71 rfl W.heap.size 237 i0 (.agg #[.int .u32 0, .int .u32 0]) 2 Tryz.underlying71 hi hz0 hz1 .i64 .i64 n n n rfl rfl rfl rfl ?c1 ?c2 ?c3 ?_)
  case c1 => rw [hz2]; omega
  case c2 => unfold maxLen; omega
  case c3 => exact Nat.le_refl _
  intro w1 hown hg1
  have hb1 : Below W.heap.size W w1 := ⟨hg1.os, hg1.tape, hg1.output, hg1.size, fun k hk => hg1.block k hk (by simp)⟩
  have hr1 := h.kept hb1
  have hG1 : W.grownBy w1 (some R) := ⟨hg1.os, hg1.tape, hg1.output, hg1.size, fun k hk _ => hg1.block k hk (by simp)⟩
  have hT : ∀ v ∈ (madeCells #[Value.int .u32 0, Value.int .u32 0] (n * 2)).toList, ∃ z, v = .int .u32 z := made_u32 _
  generalize (madeCells #[Value.int .u32 0, Value.int .u32 0] (n * 2)).toList = T0 at hown hT
  generalize hG : W.heap.size = G at hown ⊢
  clear hg1 hb1 h hi hz0 hz1 hz2
  go_wp2_with fail
  go_loopw [11] (fun i wr => ∃ (k : Nat) (T : List Value), k ≤ n ∧ i = .int .i64 k ∧ 8 * k ≤ xs.length ∧ Rd R (xs.drop (8 * k)) wr ∧ wr.ownsRow G 237 2 (.slice (some ⟨G, 0, none⟩) n n) n (LC (plOf k xs) ++ T) ∧ W.grownBy wr (some R) ∧ (∀ v ∈ T, ∃ z, v = .int .u32 z)) (fun i _ => n - (intOf i).toNat)
  case atStart => exact ⟨0, T0, Nat.zero_le _, rfl, Nat.zero_le _, hr1, hown, hG1, hT⟩
  case round =>
    clear hr1 hown hG1 hT
    obtain ⟨k, T, hk, rfl, h8, hr, ho, hg, hT⟩ := hrel
    by_cases hlt : k < n
    · go_wp2_with fail
      refine (number_any R _ _ hr).mono ?_
      rintro e w2 (⟨a, b, c, d, ys, hd1, rfl, hr2, hg2, _⟩ | ⟨hs, rfl, rfl⟩)
      case inr =>
        rw [List.length_drop] at hs
        exact ⟨rfl, hg, .inr ⟨by omega, rfl⟩⟩
      have ho2 := ho.kept hg2 (by right; simp [Value.ownBlock]; omega)
      have hG2 := grown_trans hg hg2
      clear hr hg2 ho hg
      go_wp2_with fail
      refine (number_any R _ _ hr2).mono ?_
      rintro e w3 (⟨a', b', c', d', zs, rfl, rfl, hr3, hg3, _⟩ | ⟨hs, rfl, rfl⟩)
      case inr =>
        have := congrArg List.length hd1
        simp only [List.length_drop, List.length_cons] at this
        exact ⟨rfl, hG2, .inr ⟨by omega, rfl⟩⟩
      have ho3 := ho2.kept hg3 (by right; simp [Value.ownBlock]; omega)
      have hG3 := grown_trans hG2 hg3
      clear hr2 hg3 ho2 hG2
      have hl3 := ho3.1
      rw [List.length_append, LC_length, plOf_length] at hl3
      obtain ⟨u, v, T', rfl⟩ : ∃ u v T', T = u :: v :: T' := by
        match T, hl3 with
        | [], h => simp at h; omega
        | [_], h => simp at h; omega
        | u :: v :: T', _ => exact ⟨u, v, T', rfl⟩
      obtain ⟨z0, rfl⟩ := hT u (by simp)
      obtain ⟨z1, rfl⟩ := hT v (by simp)
      have hT' : ∀ v ∈ T', ∃ z, v = .int .u32 z := fun v hv => hT v (by simp [hv])
      have c0 : w3.cell? ⟨G, k * 2, none⟩ = some (.int .u32 z0) := by
        rw [ho3.cellAt (k * 2) (by omega), List.getElem?_append_right (by rw [LC_length, plOf_length]; omega), LC_length, plOf_length]
        simp
      have c1 : w3.cell? ⟨G, k * 2 + 1, none⟩ = some (.int .u32 z1) := by
        rw [ho3.cellAt (k * 2 + 1) (by omega), List.getElem?_append_right (by rw [LC_length, plOf_length]; omega), LC_length, plOf_length]
        simp
      have f0 := ho3.frozenAt (k * 2)
      have f1 := ho3.frozenAt (k * 2 + 1)
      have hkn : (k : Int) < (n : Int) := by omega
      clear hT
      have n0 : num xs (2 * k) = n4 a b c d := num_drop xs (2 * k) (by rw [show 4 * (2 * k) = 8 * k by omega]; exact hd1)
      have n1 : num xs (2 * k + 1) = n4 a' b' c' d' := num_drop xs (2 * k + 1) (ys := zs) (by
        rw [show 4 * (2 * k + 1) = 8 * k + 4 by omega, ← List.drop_drop, hd1]; rfl)
      have hdr : xs.drop (8 * (k + 1)) = zs := by
        rw [show 8 * (k + 1) = 8 * k + 8 by omega, ← List.drop_drop, hd1]; rfl
      have hle : 8 * (k + 1) ≤ xs.length := by
        have := congrArg List.length hd1
        simp only [List.length_drop, List.length_cons] at this
        omega
      have hlc : LC (plOf (k + 1) xs) = LC (plOf k xs) ++ [.int .u32 (n4 a b c d), .int .u32 (n4 a' b' c' d')] := by
        rw [plOf_succ, LC_append, n0, n1]; rfl
      have hst := (ho3.stored (k * 2) (.int .u32 (n4 a b c d))).1.stored (k * 2 + 1) (.int .u32 (n4 a' b' c' d'))
      have hset := set_two (LC (plOf k xs)) (.int .u32 z0) (.int .u32 z1) (.int .u32 (n4 a b c d)) (.int .u32 (n4 a' b' c' d')) T'
      rw [LC_length, plOf_length] at hset
      rw [hset] at hst
      have hst' := hst.1
      rw [← hlc] at hst'
      have hrA := hr3.setCell (B := G) (by omega) (i := k * 2) (.int .u32 z0) (.int .u32 (n4 a b c d)) (by simp) c0
      have c1' : (w3.setCell ⟨G, k * 2, none⟩ (.int .u32 (n4 a b c d))).cell? ⟨G, k * 2 + 1, none⟩ = some (.int .u32 z1) := by
        rw [World.cell?_setCell_other _ _ _ _ (by simp)]; exact c1
      have hrB := hrA.setCell (B := G) (by omega) (i := k * 2 + 1) (.int .u32 z1) (.int .u32 (n4 a' b' c' d')) (by simp) c1'
      have hgB := grown_new (grown_new hG3 (a := ⟨G, k * 2, none⟩) (by simp; omega) (.int .u32 (n4 a b c d))) (a := ⟨G, k * 2 + 1, none⟩) (by simp; omega) (.int .u32 (n4 a' b' c' d'))
      rw [← hdr] at hrB
      clear n0 n1 hdr hlc hst hset hd1 hl3 c1' hrA hr3 hG3 ho3
      go_wp2
      go_roundw
      case rel => exact ⟨k + 1, T', by omega, by go_num, hle, hrB, hst', hgB, hT'⟩
      case measure => simp [intOf]; omega
    · obtain rfl : k = n := by omega
      clear hk hlt
      have hl3 := ho.1
      rw [List.length_append, LC_length, plOf_length] at hl3
      obtain rfl : T = [] := List.eq_nil_of_length_eq_zero (by omega)
      rw [List.append_nil] at ho
      clear hl3 hT
      go_wp2
      go_ret
      exact ⟨hg, .inl ⟨h8, ⟨G, Nat.le_of_eq hG, rfl, HoldsA.ofOwn ho (plOf_b hby k)⟩, hr⟩⟩
end Go.Proofs.YtakaadcpaeiccabGreat

namespace Go.Proofs.YtakaadcpaeiccabGreat
open Go.RowKit

theorem HoldsA.far {W : World} {g : Nat} {L : List (Int × Int)} (h : HoldsA W (some ⟨g, 0, none⟩) L) {a : Addr} (ha : a.block ≠ g) (v : Value) : HoldsA (W.setCell a v) (some ⟨g, 0, none⟩) L := by
  intro j hj
  obtain ⟨lb, lo, d, s, h1, h2, h3, h4, h5, h6, h7, h8, h9⟩ := h j hj
  have e := h1
  simp only [Option.some.injEq, Addr.mk.injEq, and_true] at e
  obtain ⟨rfl, rfl⟩ := e
  exact ⟨g, 0, d, s, rfl, by simpa using h2, h3, h4, h5, h6, h7, (setCell_far W a _ v (fun e => ha e.symm)).trans h8, (setCell_far W a _ v (fun e => ha e.symm)).trans h9⟩
theorem HoldsA.store12 {W : World} {g C : Nat} {L : List (Int × Int)} (h : HoldsA W (some ⟨g, 0, none⟩) L) (hC : C ≠ g) (p : Pkt) : HoldsA (store12 W C p) (some ⟨g, 0, none⟩) L :=
  HoldsA.far (HoldsA.far (HoldsA.far (HoldsA.far (HoldsA.far (HoldsA.far (HoldsA.far (HoldsA.far (HoldsA.far (HoldsA.far (HoldsA.far (HoldsA.far h (a := ⟨C, 0, none⟩) hC _) (a := ⟨C, 1, none⟩) hC _) (a := ⟨C, 2, none⟩) hC _) (a := ⟨C, 3, none⟩) hC _) (a := ⟨C, 4, none⟩) hC _) (a := ⟨C, 5, none⟩) hC _) (a := ⟨C, 6, none⟩) hC _) (a := ⟨C, 7, none⟩) hC _) (a := ⟨C, 8, none⟩) hC _) (a := ⟨C, 9, none⟩) hC _) (a := ⟨C, 10, none⟩) hC _) (a := ⟨C, 11, none⟩) hC _
end Go.Proofs.YtakaadcpaeiccabGreat

namespace Go.Proofs.YtakaadcpaeiccabGreat
open Go.RowKit

set_option maxRecDepth 100000 in
set_option maxHeartbeats 1000000 in
/-- The deferred closure, behind a panic: nothing is read, and the error is told. -/
theorem catch_panicking (C E : Nat) (hCE : C ≠ E) (z : Pkt) (x : Int) (u : TypeId) (pv : Value) (older : List PanicEntry) (w : World) (hC : PB z C w) (hE : w.heap[E]? = some (.cells #[.int .i64 x] 47 (0, 0))) :
    CallsD Tryz.prog 55 #[.pointer (some ⟨C, 0, none⟩), .pointer (some ⟨E, 0, none⟩)] (.panicking ({ v := .iface u pv, recovered := false } :: older)) w fun e u' w' =>
      e = .returned (.tuple #[]) ∧ u' = .panicking ({ v := .iface u pv, recovered := true } :: older) ∧ w' = (store12 w C Pkt.zero).setCell ⟨E, 0, none⟩ (.int .i64 1) := by
  obtain ⟨k0, k1, k2, k3, k4, k5, k6, k7, k8, k9, k10, k11⟩ := hC.cell
  have kf := hC.free
  have e0 : w.cell? ⟨E, 0, none⟩ = some (.int .i64 x) := cell_of_row w E 0 _ _ _ hE
  have ef : w.frozen? ⟨E, 0, none⟩ = false := frozen_of_row w E 0 _ _ hE
  refine callsD_of_wpS Tryz.func55 rfl fun c₀ cs hu => ?_
  apply wpS_seq
  apply wpS_region
  simp [wpOpsS, go_sem, recoverD, hu, Tryz.ntmps55, Exit.thenS]
  refine wpS_cond (t := true) (by simp [Act.eval, Array.replicate]) ?_
  simp only [if_true]
  apply wpS_region
  simp [wpOpsS, go_sem, k0, k1, k2, k3, k4, k5, k6, k7, k8, k9, k10, k11, kf, e0, ef, bodyPostS, results, Tryz.results55]
  rfl

set_option maxRecDepth 100000 in
theorem catch_idle (a b : Addr) (w : World) :
    CallsD Tryz.prog 55 #[.pointer (some a), .pointer (some b)] .returning w fun e u' w' => e = .returned (.tuple #[]) ∧ u' = .returning ∧ w' = w := by
  refine callsD_of_wpS Tryz.func55 rfl fun c₀ cs hu => ?_
  apply wpS_seq
  apply wpS_region
  simp [wpOpsS, go_sem, recoverD, hu, Tryz.ntmps55, Exit.thenS]
  refine wpS_cond (t := false) (by simp [Act.eval, Array.replicate]) ?_
  simp only [Bool.false_eq_true, if_false]
  refine wpS_of_wp (wp_skip ?_)
  cases c₀
  simp_all [bodyPostS, results, Tryz.results55]
end Go.Proofs.YtakaadcpaeiccabGreat

namespace Go.Proofs.YtakaadcpaeiccabGreat
open Go.RowKit

/-- What Decode answers. -/
def DecodeP (xs : List Int) (W : World) (e : Ending) (w' : World) : Prop :=
  Below W.heap.size W w' ∧ ((isF xs = true ∧ ∃ v, e = .returned (.tuple #[v, .int .i64 0]) ∧ Reads xs v w' W.heap.size) ∨ (isF xs = false ∧ e = .returned (.tuple #[Pkt.zero.val, .int .i64 1])))

theorem HoldsA.farO {W : World} {ao : Option Addr} {L : List (Int × Int)} {N : Nat} (h : HoldsA W ao L) (hf : ∀ b, ao = some b → N ≤ b.block) {a : Addr} (ha : a.block < N) (v : Value) : HoldsA (W.setCell a v) ao L := by
  intro j hj
  obtain ⟨lb, lo, d, s, h1, h2, h3, h4, h5, h6, h7, h8, h9⟩ := h j hj
  have hb := hf _ h1
  have hne : lb ≠ a.block := by have : N ≤ lb := hb; omega
  exact ⟨lb, lo, d, s, h1, by simpa using h2, h3, h4, h5, h6, h7, (setCell_far W a _ v hne).trans h8, (setCell_far W a _ v hne).trans h9⟩
theorem storeO_holds {W : World} {ao : Option Addr} {C : Nat} {L : List (Int × Int)} {N : Nat} (h : HoldsA W ao L) (hf : ∀ b, ao = some b → N ≤ b.block) (hC : C < N) (p : Pkt) : HoldsA (store12 W C p) ao L :=
  HoldsA.farO (HoldsA.farO (HoldsA.farO (HoldsA.farO (HoldsA.farO (HoldsA.farO (HoldsA.farO (HoldsA.farO (HoldsA.farO (HoldsA.farO (HoldsA.farO (HoldsA.farO h hf (a := ⟨C, 0, none⟩) hC _) hf (a := ⟨C, 1, none⟩) hC _) hf (a := ⟨C, 2, none⟩) hC _) hf (a := ⟨C, 3, none⟩) hC _) hf (a := ⟨C, 4, none⟩) hC _) hf (a := ⟨C, 5, none⟩) hC _) hf (a := ⟨C, 6, none⟩) hC _) hf (a := ⟨C, 7, none⟩) hC _) hf (a := ⟨C, 8, none⟩) hC _) hf (a := ⟨C, 9, none⟩) hC _) hf (a := ⟨C, 10, none⟩) hC _) hf (a := ⟨C, 11, none⟩) hC _

theorem below_storeB {A B : World} {C N : Nat} (h : Below N A B) (hC : N ≤ C) (p : Pkt) : Below N A (store12 B C p) :=
  ((((((((((((((((((((((((h).setCell (p := ⟨C, 0, none⟩) hC _)).setCell (p := ⟨C, 1, none⟩) hC _)).setCell (p := ⟨C, 2, none⟩) hC _)).setCell (p := ⟨C, 3, none⟩) hC _)).setCell (p := ⟨C, 4, none⟩) hC _)).setCell (p := ⟨C, 5, none⟩) hC _)).setCell (p := ⟨C, 6, none⟩) hC _)).setCell (p := ⟨C, 7, none⟩) hC _)).setCell (p := ⟨C, 8, none⟩) hC _)).setCell (p := ⟨C, 9, none⟩) hC _)).setCell (p := ⟨C, 10, none⟩) hC _)).setCell (p := ⟨C, 11, none⟩) hC _)
theorem store_far (W : World) {C : Nat} (p : Pkt) {k : Nat} (hk : k ≠ C) : (store12 W C p).heap[k]? = W.heap[k]? := by
  have f := fun (w : World) (i : Nat) (v : Value) => Below.heap_setCell w ⟨C, i, none⟩ v k hk
  simp only [store12, f]

set_option maxRecDepth 100000 in
set_option maxHeartbeats 4000000 in
theorem Decode_of (hpk : ∀ (R : Nat) (xs : List Int) (W : World), Rd R xs W → Calls Tryz.prog 56 #[.pointer (some ⟨R, 0, none⟩)] W fun e w' => PacketP R xs W e w')
    (v : Value) (xs : List Int) (W : World) (hv : RestV W v xs) :
    Calls Tryz.prog 22 #[v] W fun e w' => DecodeP xs W e w' := by
  have hmf : ∀ (fn : Fn) (first cap : Array Value) (w : World), (Instr.makeFunc fn first cap).run Tryz.prog w = .ok (.func fn first cap) w := fun _ _ _ _ => rfl
  obtain ⟨a, n, c, rfl⟩ : ∃ a n c, v = .slice a n c := by
    rcases hv.2 with ⟨rfl, _⟩ | ⟨_, _, _, rfl, _⟩
    · exact ⟨_, _, _, rfl⟩
    · exact ⟨_, _, _, rfl⟩
  go_enter_defers Tryz.func22, Tryz.ntmps22
  go_wp2_with fail
  have hb3 : Below W.heap.size W (((W.alloc Pkt.zero.box).alloc (.cells #[.int .i64 0] 47)).alloc (.cells #[.slice a n c] 141)) :=
    (((Below.refl W.heap.size W).alloc (Nat.le_refl _) _).alloc (by simp) _).alloc (by simp; omega) _
  have hC : PB Pkt.zero W.heap.size (((W.alloc Pkt.zero.box).alloc (.cells #[.int .i64 0] 47)).alloc (.cells #[.slice a n c] 141)) := ((PB.new Pkt.zero W).alloc _).alloc _
  have hE : (((W.alloc Pkt.zero.box).alloc (.cells #[.int .i64 0] 47)).alloc (.cells #[.slice a n c] 141)).heap[W.heap.size + 1]? = some (.cells #[.int .i64 0] 47 (0, 0)) := by
    rw [Below.heap_alloc _ _ _ (by simp)]
    have := heap_alloc_new (W.alloc Pkt.zero.box) (.cells #[.int .i64 0] 47)
    rwa [World.size_alloc] at this
  have hRh : (((W.alloc Pkt.zero.box).alloc (.cells #[.int .i64 0] 47)).alloc (.cells #[.slice a n c] 141)).heap[W.heap.size + 1 + 1]? = some (.cells #[.slice a n c] 141 (0, 0)) := by
    have := heap_alloc_new ((W.alloc Pkt.zero.box).alloc (.cells #[.int .i64 0] 47)) (.cells #[.slice a n c] 141)
    rwa [World.size_alloc, World.size_alloc] at this
  have hrd : Rd (W.heap.size + 1 + 1) xs (((W.alloc Pkt.zero.box).alloc (.cells #[.int .i64 0] 47)).alloc (.cells #[.slice a n c] 141)) :=
    ⟨_, cell_of_row _ _ 0 _ _ _ hRh, frozen_of_row _ _ 0 _ _ hRh, hv.kept hb3⟩
  dsimp only [Pkt.box, Pkt.zero] at hb3 hC hE hrd
  generalize World.alloc _ _ = W3 at hb3 hC hE hrd ⊢
  clear hRh hv
  have hsz3 := hrd.lt
  refine (hpk _ xs _ hrd).mono ?_
  rintro e w1 ⟨hg, ⟨hF, pv, rfl, hRd⟩ | ⟨hF, rfl⟩⟩
  · obtain ⟨x0, x1, x2, x3, x4, r, ao, c', hxs, hpv, hlen, hA, hfr⟩ := hRd
    obtain ⟨q, hq⟩ : ∃ q : Pkt, q = { pkOf x0 x1 x2 x4 r with la := ao, lc := c' } := ⟨_, rfl⟩
    rw [← hq] at hpv
    subst hpv
    have hq' := (show Hid _ from hq)
    clear hq
    have hC1 := hC.grown hg (by omega)
    have hE1 := (hg.block (W.heap.size + 1) (Array.getElem?_eq_some_iff.1 hE).1 (by simp)).trans hE
    have hB1 : Below W.heap.size W w1 := hb3.trans ⟨hg.os, hg.tape, hg.output, hg.size, fun k hk => hg.block k (by omega) (by simp; omega)⟩
    have hF1 := hC1.storeAll q
    have hB2 : Below W.heap.size W ((store12 w1 W.heap.size q).setCell ⟨W.heap.size + 1, 0, none⟩ (.int .i64 0)) :=
      (below_storeB hB1 (Nat.le_refl _) q).setCell (p := ⟨W.heap.size + 1, 0, none⟩) (by simp) _
    have hF2 : PB q W.heap.size ((store12 w1 W.heap.size q).setCell ⟨W.heap.size + 1, 0, none⟩ (.int .i64 0)) := hF1.other (a := ⟨W.heap.size + 1, 0, none⟩) (by simp) _
    obtain ⟨k0, k1, k2, k3, k4, k5, k6, k7, k8, k9, k10, k11⟩ := hC1.cell
    dsimp only at k0 k1 k2 k3 k4 k5 k6 k7 k8 k9 k10 k11
    have kf := hC1.free
    have e0 : w1.cell? ⟨W.heap.size + 1, 0, none⟩ = some (.int .i64 0) := cell_of_row w1 _ 0 _ _ _ hE1
    have ef : w1.frozen? ⟨W.heap.size + 1, 0, none⟩ = false := frozen_of_row w1 _ 0 _ _ hE1
    have hA2 : HoldsA ((store12 w1 W.heap.size q).setCell ⟨W.heap.size + 1, 0, none⟩ (.int .i64 0)) ao (lsOf x1 x4 r) := (storeO_holds hA hfr (by omega) q).farO hfr (a := ⟨W.heap.size + 1, 0, none⟩) (by simp; omega) _
    have hE2 : ((store12 w1 W.heap.size q).setCell ⟨W.heap.size + 1, 0, none⟩ (.int .i64 0)).cell? ⟨W.heap.size + 1, 0, none⟩ = some (.int .i64 0) := by
      have hs : (store12 w1 W.heap.size q).heap[W.heap.size + 1]? = w1.heap[W.heap.size + 1]? := store_far w1 q (by omega)
      have hpre : (store12 w1 W.heap.size q).cell? ⟨W.heap.size + 1, 0, none⟩ = some (.int .i64 0) := cell_of_row _ _ 0 _ _ _ (hs.trans hE1)
      exact World.cell?_setCell_same _ _ _ hpre
    clear hC hE hb3 hg hA hB1 hF1 hE1 hrd
    go_wp2
    dsimp only [store12] at hF2 hB2 hA2 hE2
    generalize World.setCell _ _ _ = wF at hF2 hB2 hA2 hE2 ⊢
    clear k0 k1 k2 k3 k4 k5 k6 k7 k8 k9 k10 k11 kf e0 ef
    obtain ⟨k0, k1, k2, k3, k4, k5, k6, k7, k8, k9, k10, k11⟩ := hF2.cell
    refine leaves_cons (f := 55) (args := #[.pointer (some ⟨W.heap.size, 0, none⟩), .pointer (some ⟨W.heap.size + 1, 0, none⟩)]) (by simp) (by simp [go_sem]) ?_
    refine (catch_idle _ _ _).mono ?_
    rintro e u' w'' ⟨rfl, rfl, rfl⟩
    have hpost : DecodeP xs W (.returned (.tuple #[q.val, .int .i64 0])) w'' :=
      ⟨hB2, .inl ⟨hF, _, rfl, x0, x1, x2, x3, x4, r, ao, c', hxs, by rw [hq'.out], hlen, hA2, fun b hb => Nat.le_trans (by omega) (hfr b hb)⟩⟩
    simp [Leaves, settle, results, Tryz.results22, go_sem, k0, k1, k2, k3, k4, k5, k6, k7, k8, k9, k10, k11, hE2]
    exact hpost
  · have hC1 := hC.grown hg (by omega)
    have hE1 := (hg.block (W.heap.size + 1) (Array.getElem?_eq_some_iff.1 hE).1 (by simp)).trans hE
    have hB1 : Below W.heap.size W w1 := hb3.trans ⟨hg.os, hg.tape, hg.output, hg.size, fun k hk => hg.block k (by omega) (by simp; omega)⟩
    show bodyPostD Tryz.prog Tryz.f22 _ (Exit.panic broken) _ w1
    refine leaves_cons (f := 55) (args := #[.pointer (some ⟨W.heap.size, 0, none⟩), .pointer (some ⟨W.heap.size + 1, 0, none⟩)]) (by simp) (by simp [go_sem]) ?_
    refine (catch_panicking W.heap.size (W.heap.size + 1) (by omega) _ 0 47 _ [] _ hC1 hE1).mono ?_
    rintro e u' w'' ⟨rfl, rfl, rfl⟩
    have hF2 : PB Pkt.zero W.heap.size ((store12 w1 W.heap.size Pkt.zero).setCell ⟨W.heap.size + 1, 0, none⟩ (.int .i64 1)) := (hC1.storeAll Pkt.zero).other (a := ⟨W.heap.size + 1, 0, none⟩) (by simp) _
    have hs : (store12 w1 W.heap.size Pkt.zero).heap[W.heap.size + 1]? = w1.heap[W.heap.size + 1]? := store_far w1 Pkt.zero (by omega)
    have hpre : (store12 w1 W.heap.size Pkt.zero).cell? ⟨W.heap.size + 1, 0, none⟩ = some (.int .i64 0) := cell_of_row _ _ 0 _ _ _ (hs.trans hE1)
    have hE2 := World.cell?_setCell_same _ ⟨W.heap.size + 1, 0, none⟩ (.int .i64 1) hpre
    have hB2 : Below W.heap.size W ((store12 w1 W.heap.size Pkt.zero).setCell ⟨W.heap.size + 1, 0, none⟩ (.int .i64 1)) := (below_storeB hB1 (Nat.le_refl _) Pkt.zero).setCell (p := ⟨W.heap.size + 1, 0, none⟩) (by simp) _
    generalize (store12 w1 W.heap.size Pkt.zero).setCell ⟨W.heap.size + 1, 0, none⟩ (.int .i64 1) = wF at hF2 hE2 hB2 ⊢
    obtain ⟨k0, k1, k2, k3, k4, k5, k6, k7, k8, k9, k10, k11⟩ := hF2.cell
    have hpost : DecodeP xs W (.returned (.tuple #[Pkt.zero.val, .int .i64 1])) wF := ⟨hB2, .inr ⟨hF, rfl⟩⟩
    simp [Leaves, settle, results, Tryz.results22, go_sem, k0, k1, k2, k3, k4, k5, k6, k7, k8, k9, k10, k11, hE2]
    exact hpost
end Go.Proofs.YtakaadcpaeiccabGreat

namespace Go.Proofs.YtakaadcpaeiccabGreat
open Go.RowKit

set_option maxRecDepth 100000 in
set_option maxHeartbeats 8000000 in
theorem packet_1f (R : Nat) (x0 x4 : Int) (r : List Int) (W : World) (hr : Rd R (x0 :: 1 :: 0 :: 0 :: x4 :: r) W) :
    Calls Tryz.prog 56 #[.pointer (some ⟨R, 0, none⟩)] W fun e w' => PacketP R (x0 :: 1 :: 0 :: 0 :: x4 :: r) W e w' := by
  have hby := hr.bytes
  have hR := hr.lt
  go_enter Tryz.func56, Tryz.ntmps56
  go_wp2_with fail
  have hC0 := PB.new Pkt.zero W
  have h1 := hr.alloc Pkt.zero.box
  have hg0 := World.grownBy_alloc W Pkt.zero.box (some R)
  dsimp only [Pkt.box, Pkt.zero] at hC0 h1 hg0
  refine (one_cons R _ _ _ h1).mono ?_
  rintro e w1 ⟨rfl, hr1, hg1⟩
  have hC1 : PB Pkt.zero W.heap.size w1 := PB.grown hC0 hg1 (by omega)
  have hW1 := grown_trans hg0 hg1
  clear hr h1 hg0 hg1 hC0
  go_wp2_with fail
  refine (one_cons R _ _ _ hr1).mono ?_
  rintro e w2 ⟨rfl, hr2, hg2⟩
  have hC2 := hC1.grown hg2 (by omega)
  have hW2 := grown_trans hW1 hg2
  clear hr1 hg2 hC1 hW1
  go_wp2_with fail
  have hB := PB.new ⟨x0, 1, 0, false, 0, 0, 0, 0, 0, 0, none, 0, 0, ⟨#[]⟩⟩ w2
  have hCB : W.heap.size < w2.heap.size := hC2.lt
  have hC3 := hC2.alloc (Pkt.box ⟨x0, 1, 0, false, 0, 0, 0, 0, 0, 0, none, 0, 0, ⟨#[]⟩⟩)
  have hr3 := hr2.alloc (Pkt.box ⟨x0, 1, 0, false, 0, 0, 0, 0, 0, 0, none, 0, 0, ⟨#[]⟩⟩)
  have hW3 := grown_trans hW2 (World.grownBy_alloc w2 (Pkt.box ⟨x0, 1, 0, false, 0, 0, 0, 0, 0, 0, none, 0, 0, ⟨#[]⟩⟩) (some R))
  have hRB := hr2.lt
  generalize hBB : w2.heap.size = B at hB hCB hRB ⊢
  clear hBB
  dsimp only [Pkt.box] at hB hC3 hr3 hW3
  clear hr2 hC2 hW2
  refine (one_cons R _ _ _ hr3).mono ?_
  rintro e w4 ⟨rfl, hr4, hg4⟩
  have hB4 := hB.grown hg4 (by omega)
  have hC4 := hC3.grown hg4 (by omega)
  have hW4 := grown_trans hW3 hg4
  clear hr3 hg4 hB hC3 hW3
  go_wp2_with (go_at_call 85; refine (require_ok _).mono ?_; rintro e w4 ⟨rfl, rfl⟩; obtain ⟨_, _, _, c3, _, _, _, _, _, _, _, _⟩ := hB4.cell; have f3 := hB4.free 3)
  have hB5 := hB4.set ⟨x0, 1, 0, false, 0, 0, 0, 0, 0, 0, none, 0, 0, ⟨#[]⟩⟩ 3 (.bool false) rfl
  have hr5 := hr4.setCell (B := B) (by omega) (i := 3) (.bool false) (.bool false) (by simp) c3
  have hC5 := hC4.other (a := ⟨B, 3, none⟩) (by simp; omega) (.bool false)
  have hW5 := grown_new hW4 (a := ⟨B, 3, none⟩) (by simp; omega) (.bool false)
  clear c3 f3 hr4 hB4 hC4 hW4
  generalize w4.setCell _ _ = w5 at hB5 hr5 hC5 hW5 ⊢
  refine (one_cons R _ _ _ hr5).mono ?_
  rintro e w6 ⟨rfl, hr6, hg6⟩
  have hB6 := hB5.grown hg6 (by omega)
  have hC6 := hC5.grown hg6 (by omega)
  have hW6 := grown_trans hW5 hg6
  clear hr5 hg6 hB5 hC5 hW5
  go_wp2_with (go_at_call 85; refine (require_ok _).mono ?_; rintro e w6 ⟨rfl, rfl⟩)
  refine (one_cons R _ _ _ hr6).mono ?_
  rintro e w7 ⟨rfl, hr7, hg7⟩
  have hB7 := hB6.grown hg7 (by omega)
  have hC7 := hC6.grown hg7 (by omega)
  have hW7 := grown_trans hW6 hg7
  clear hr6 hg7 hB6 hC6 hW6
  go_wp2_with fail
  obtain ⟨_, c1, _, _, _, _, _, _, _, _, _, _⟩ := hB7.cell
  refine (numbers_1 B w7 c1).mono ?_
  rintro e w8 ⟨rfl, hw8⟩
  have hN8 : w8.heap[w7.heap.size]? = some (.cells #[.pointer (some ⟨B, 4, none⟩), .pointer (some ⟨B, 5, none⟩), .pointer (some ⟨B, 6, none⟩), .pointer (some ⟨B, 7, none⟩), .pointer (some ⟨B, 8, none⟩)] 189 (0, 0)) := by rw [hw8]; exact heap_alloc_new w7 _
  have hB8 : PB ⟨x0, 1, 0, false, 0, 0, 0, 0, 0, 0, none, 0, 0, ⟨#[]⟩⟩ B w8 := by rw [hw8]; exact hB7.alloc _
  have hC8 : PB Pkt.zero W.heap.size w8 := by rw [hw8]; exact hC7.alloc _
  have hr8 : Rd R r w8 := by rw [hw8]; exact (hr7.alloc _).drew
  have hW8 : W.grownBy w8 (some R) := by rw [hw8]; exact grown_drew (grown_trans hW7 (World.grownBy_alloc w7 _ _))
  have hBN : B < w7.heap.size := hB7.lt
  generalize w7.heap.size = N at hN8 hBN ⊢
  clear hw8 hr7 hB7 hC7 hW7 c1
  go_wp2_with fail
  refine wp_loop_rounds 6 ?_
  rw [rounds_succ]
  have pc0 := cell_of_row w8 N 0 _ _ _ hN8
  simp only [List.getElem?_toArray, List.getElem?_cons_zero] at pc0
  go_wp2_with fail
  clear pc0
  refine (number_any R _ _ hr8).mono ?_
  rintro e w9 (⟨a0, b0, e0, d0, r0, rfl, rfl, hr9, hg9, _⟩ | ⟨hshort, rfl, rfl⟩)
  case inr => exact ⟨rfl, hW8, .inr ⟨isF_len (by rw [show needOf 1 x4 = 20 from rfl]; first | omega | (simp only [List.length_cons]; omega)), rfl⟩⟩
  have hN9 := (hg9.block N (Array.getElem?_eq_some_iff.1 hN8).1 (by simp; omega)).trans hN8
  have hB9 := hB8.grown hg9 (by omega)
  have hC9 := hC8.grown hg9 (by omega)
  have hW9 := grown_trans hW8 hg9
  clear hr8 hg9 hB8 hC8 hW8 hN8
  obtain ⟨_, _, _, _, c4, c5, c6, c7, c8, c9, _, _⟩ := hB9.cell
  dsimp only at c4 c5 c6 c7 c8 c9
  have ff := hB9.free 4
  have hpre := c4
  clear c5 c6 c7 c8 c9
  go_wp2_with fail
  have hB8 := hB9.set ⟨x0, 1, 0, false, (n4 a0 b0 e0 d0), 0, 0, 0, 0, 0, none, 0, 0, ⟨#[]⟩⟩ 4 (.int .u32 (n4 a0 b0 e0 d0)) rfl
  have hr8 := hr9.setCell (B := B) (by omega) (i := 4) (.int .u32 0) (.int .u32 (n4 a0 b0 e0 d0)) (by simp) hpre
  have hC8 := hC9.other (a := ⟨B, 4, none⟩) (by simp; omega) (.int .u32 (n4 a0 b0 e0 d0))
  have hW8 := grown_new hW9 (a := ⟨B, 4, none⟩) (by simp; omega) (.int .u32 (n4 a0 b0 e0 d0))
  have hN8 := (Below.heap_setCell w9 ⟨B, 4, none⟩ (.int .u32 (n4 a0 b0 e0 d0)) N (by simp; omega)).trans hN9
  clear hr9 hB9 hC9 hW9 hN9 ff hpre c4
  generalize w9.setCell _ _ = w8 at hB8 hr8 hC8 hW8 hN8 ⊢
  rw [rounds_succ]
  have pc1 := cell_of_row w8 N 1 _ _ _ hN8
  simp only [List.getElem?_toArray, List.getElem?_cons_succ, List.getElem?_cons_zero] at pc1
  go_wp2_with fail
  clear pc1
  refine (number_any R _ _ hr8).mono ?_
  rintro e w9 (⟨a1, b1, e1, d1, r1, rfl, rfl, hr9, hg9, _⟩ | ⟨hshort, rfl, rfl⟩)
  case inr => exact ⟨rfl, hW8, .inr ⟨isF_len (by rw [show needOf 1 x4 = 20 from rfl]; first | omega | (simp only [List.length_cons]; omega)), rfl⟩⟩
  have hN9 := (hg9.block N (Array.getElem?_eq_some_iff.1 hN8).1 (by simp; omega)).trans hN8
  have hB9 := hB8.grown hg9 (by omega)
  have hC9 := hC8.grown hg9 (by omega)
  have hW9 := grown_trans hW8 hg9
  clear hr8 hg9 hB8 hC8 hW8 hN8
  obtain ⟨_, _, _, _, c4, c5, c6, c7, c8, c9, _, _⟩ := hB9.cell
  dsimp only at c4 c5 c6 c7 c8 c9
  have ff := hB9.free 5
  have hpre := c5
  clear c4 c6 c7 c8 c9
  go_wp2_with fail
  have hB8 := hB9.set ⟨x0, 1, 0, false, (n4 a0 b0 e0 d0), (n4 a1 b1 e1 d1), 0, 0, 0, 0, none, 0, 0, ⟨#[]⟩⟩ 5 (.int .u32 (n4 a1 b1 e1 d1)) rfl
  have hr8 := hr9.setCell (B := B) (by omega) (i := 5) (.int .u32 0) (.int .u32 (n4 a1 b1 e1 d1)) (by simp) hpre
  have hC8 := hC9.other (a := ⟨B, 5, none⟩) (by simp; omega) (.int .u32 (n4 a1 b1 e1 d1))
  have hW8 := grown_new hW9 (a := ⟨B, 5, none⟩) (by simp; omega) (.int .u32 (n4 a1 b1 e1 d1))
  have hN8 := (Below.heap_setCell w9 ⟨B, 5, none⟩ (.int .u32 (n4 a1 b1 e1 d1)) N (by simp; omega)).trans hN9
  clear hr9 hB9 hC9 hW9 hN9 ff hpre c5
  generalize w9.setCell _ _ = w8 at hB8 hr8 hC8 hW8 hN8 ⊢
  rw [rounds_succ]
  have pc2 := cell_of_row w8 N 2 _ _ _ hN8
  simp only [List.getElem?_toArray, List.getElem?_cons_succ, List.getElem?_cons_zero] at pc2
  go_wp2_with fail
  clear pc2
  refine (number_any R _ _ hr8).mono ?_
  rintro e w9 (⟨a2, b2, e2, d2, r2, rfl, rfl, hr9, hg9, _⟩ | ⟨hshort, rfl, rfl⟩)
  case inr => exact ⟨rfl, hW8, .inr ⟨isF_len (by rw [show needOf 1 x4 = 20 from rfl]; first | omega | (simp only [List.length_cons]; omega)), rfl⟩⟩
  have hN9 := (hg9.block N (Array.getElem?_eq_some_iff.1 hN8).1 (by simp; omega)).trans hN8
  have hB9 := hB8.grown hg9 (by omega)
  have hC9 := hC8.grown hg9 (by omega)
  have hW9 := grown_trans hW8 hg9
  clear hr8 hg9 hB8 hC8 hW8 hN8
  obtain ⟨_, _, _, _, c4, c5, c6, c7, c8, c9, _, _⟩ := hB9.cell
  dsimp only at c4 c5 c6 c7 c8 c9
  have ff := hB9.free 6
  have hpre := c6
  clear c4 c5 c7 c8 c9
  go_wp2_with fail
  have hB8 := hB9.set ⟨x0, 1, 0, false, (n4 a0 b0 e0 d0), (n4 a1 b1 e1 d1), (n4 a2 b2 e2 d2), 0, 0, 0, none, 0, 0, ⟨#[]⟩⟩ 6 (.int .u32 (n4 a2 b2 e2 d2)) rfl
  have hr8 := hr9.setCell (B := B) (by omega) (i := 6) (.int .u32 0) (.int .u32 (n4 a2 b2 e2 d2)) (by simp) hpre
  have hC8 := hC9.other (a := ⟨B, 6, none⟩) (by simp; omega) (.int .u32 (n4 a2 b2 e2 d2))
  have hW8 := grown_new hW9 (a := ⟨B, 6, none⟩) (by simp; omega) (.int .u32 (n4 a2 b2 e2 d2))
  have hN8 := (Below.heap_setCell w9 ⟨B, 6, none⟩ (.int .u32 (n4 a2 b2 e2 d2)) N (by simp; omega)).trans hN9
  clear hr9 hB9 hC9 hW9 hN9 ff hpre c6
  generalize w9.setCell _ _ = w8 at hB8 hr8 hC8 hW8 hN8 ⊢
  rw [rounds_succ]
  have pc3 := cell_of_row w8 N 3 _ _ _ hN8
  simp only [List.getElem?_toArray, List.getElem?_cons_succ, List.getElem?_cons_zero] at pc3
  go_wp2_with fail
  clear pc3
  refine (number_any R _ _ hr8).mono ?_
  rintro e w9 (⟨a3, b3, e3, d3, r3, rfl, rfl, hr9, hg9, _⟩ | ⟨hshort, rfl, rfl⟩)
  case inr => exact ⟨rfl, hW8, .inr ⟨isF_len (by rw [show needOf 1 x4 = 20 from rfl]; first | omega | (simp only [List.length_cons]; omega)), rfl⟩⟩
  have hN9 := (hg9.block N (Array.getElem?_eq_some_iff.1 hN8).1 (by simp; omega)).trans hN8
  have hB9 := hB8.grown hg9 (by omega)
  have hC9 := hC8.grown hg9 (by omega)
  have hW9 := grown_trans hW8 hg9
  clear hr8 hg9 hB8 hC8 hW8 hN8
  obtain ⟨_, _, _, _, c4, c5, c6, c7, c8, c9, _, _⟩ := hB9.cell
  dsimp only at c4 c5 c6 c7 c8 c9
  have ff := hB9.free 7
  have hpre := c7
  clear c4 c5 c6 c8 c9
  go_wp2_with fail
  have hB8 := hB9.set ⟨x0, 1, 0, false, (n4 a0 b0 e0 d0), (n4 a1 b1 e1 d1), (n4 a2 b2 e2 d2), (n4 a3 b3 e3 d3), 0, 0, none, 0, 0, ⟨#[]⟩⟩ 7 (.int .u32 (n4 a3 b3 e3 d3)) rfl
  have hr8 := hr9.setCell (B := B) (by omega) (i := 7) (.int .u32 0) (.int .u32 (n4 a3 b3 e3 d3)) (by simp) hpre
  have hC8 := hC9.other (a := ⟨B, 7, none⟩) (by simp; omega) (.int .u32 (n4 a3 b3 e3 d3))
  have hW8 := grown_new hW9 (a := ⟨B, 7, none⟩) (by simp; omega) (.int .u32 (n4 a3 b3 e3 d3))
  have hN8 := (Below.heap_setCell w9 ⟨B, 7, none⟩ (.int .u32 (n4 a3 b3 e3 d3)) N (by simp; omega)).trans hN9
  clear hr9 hB9 hC9 hW9 hN9 ff hpre c7
  generalize w9.setCell _ _ = w8 at hB8 hr8 hC8 hW8 hN8 ⊢
  rw [rounds_succ]
  have pc4 := cell_of_row w8 N 4 _ _ _ hN8
  simp only [List.getElem?_toArray, List.getElem?_cons_succ, List.getElem?_cons_zero] at pc4
  go_wp2_with fail
  clear pc4
  refine (number_any R _ _ hr8).mono ?_
  rintro e w9 (⟨a4, b4, e4, d4, r4, rfl, rfl, hr9, hg9, _⟩ | ⟨hshort, rfl, rfl⟩)
  case inr => exact ⟨rfl, hW8, .inr ⟨isF_len (by rw [show needOf 1 x4 = 20 from rfl]; first | omega | (simp only [List.length_cons]; omega)), rfl⟩⟩
  have hN9 := (hg9.block N (Array.getElem?_eq_some_iff.1 hN8).1 (by simp; omega)).trans hN8
  have hB9 := hB8.grown hg9 (by omega)
  have hC9 := hC8.grown hg9 (by omega)
  have hW9 := grown_trans hW8 hg9
  clear hr8 hg9 hB8 hC8 hW8 hN8
  obtain ⟨_, _, _, _, c4, c5, c6, c7, c8, c9, _, _⟩ := hB9.cell
  dsimp only at c4 c5 c6 c7 c8 c9
  have ff := hB9.free 8
  have hpre := c8
  clear c4 c5 c6 c7 c9
  go_wp2_with fail
  have hB8 := hB9.set ⟨x0, 1, 0, false, (n4 a0 b0 e0 d0), (n4 a1 b1 e1 d1), (n4 a2 b2 e2 d2), (n4 a3 b3 e3 d3), (n4 a4 b4 e4 d4), 0, none, 0, 0, ⟨#[]⟩⟩ 8 (.int .u32 (n4 a4 b4 e4 d4)) rfl
  have hr8 := hr9.setCell (B := B) (by omega) (i := 8) (.int .u32 0) (.int .u32 (n4 a4 b4 e4 d4)) (by simp) hpre
  have hC8 := hC9.other (a := ⟨B, 8, none⟩) (by simp; omega) (.int .u32 (n4 a4 b4 e4 d4))
  have hW8 := grown_new hW9 (a := ⟨B, 8, none⟩) (by simp; omega) (.int .u32 (n4 a4 b4 e4 d4))
  have hN8 := (Below.heap_setCell w9 ⟨B, 8, none⟩ (.int .u32 (n4 a4 b4 e4 d4)) N (by simp; omega)).trans hN9
  clear hr9 hB9 hC9 hW9 hN9 ff hpre c8
  generalize w9.setCell _ _ = w8 at hB8 hr8 hC8 hW8 hN8 ⊢
  rw [rounds_succ]
  obtain ⟨v, hv, hvf, hvb, hvs⟩ := hr8
  have hsh : ∃ a c, v = .slice a r4.length c := by
    rcases hvs with ⟨rfl, h⟩ | ⟨_, _, _, rfl, _⟩
    · exact ⟨none, 0, by rw [h]; rfl⟩
    · exact ⟨_, _, rfl⟩
  obtain ⟨sa, sc, rfl⟩ := hsh
  clear hvs hvb hvf hN8
  obtain ⟨c0, c1, c2, c3, c4, c5, c6, c7, c8, c9, c10, c11⟩ := hB8.cell
  dsimp only at c0 c1 c2 c3 c4 c5 c6 c7 c8 c9 c10 c11
  have f2 := hB8.free 2
  have hBx := hB8.set ⟨x0, 1, x4, false, (n4 a0 b0 e0 d0), (n4 a1 b1 e1 d1), (n4 a2 b2 e2 d2), (n4 a3 b3 e3 d3), (n4 a4 b4 e4 d4), 0, none, 0, 0, ⟨#[]⟩⟩ 2 (.int .i64 x4) rfl
  have hCx := hC8.other (a := ⟨B, 2, none⟩) (by simp; omega) (.int .i64 x4)
  have hWx := grown_new hW8 (a := ⟨B, 2, none⟩) (by simp; omega) (.int .i64 x4)
  by_cases hrest : r4 = []
  case neg =>
    have hl0 : ((r4.length : Int) == 0) = false := by
      rw [beq_eq_false_iff_ne]
      intro h
      exact hrest (List.eq_nil_of_length_eq_zero (by omega))
    go_wp2_with (go_at_call 85; refine (require_no _).mono ?_; rintro e w9 ⟨rfl, hww⟩; rw [hww])
    have hl1 : 0 < r4.length := List.length_pos_iff.2 hrest
    refine ⟨rfl, hWx, .inr ⟨?_, rfl⟩⟩
    exact isF_len (by rw [show needOf 1 x4 = 20 from rfl]; simp only [List.length_cons]; omega)
  subst hrest
  have q0 := hby x0 (by simp)
  have q4 := hby x4 (by simp)
  have m0 := n4_b (hby a0 (by simp)) (hby b0 (by simp)) (hby e0 (by simp)) (hby d0 (by simp))
  have m1 := n4_b (hby a1 (by simp)) (hby b1 (by simp)) (hby e1 (by simp)) (hby d1 (by simp))
  have m2 := n4_b (hby a2 (by simp)) (hby b2 (by simp)) (hby e2 (by simp)) (hby d2 (by simp))
  have m3 := n4_b (hby a3 (by simp)) (hby b3 (by simp)) (hby e3 (by simp)) (hby d3 (by simp))
  have m4 := n4_b (hby a4 (by simp)) (hby b4 (by simp)) (hby e4 (by simp)) (hby d4 (by simp))
  have hwf : Pkt.Wf ⟨x0, 1, x4, false, (n4 a0 b0 e0 d0), (n4 a1 b1 e1 d1), (n4 a2 b2 e2 d2), (n4 a3 b3 e3 d3), (n4 a4 b4 e4 d4), 0, none, 0, 0, ⟨#[]⟩⟩ := ⟨by dsimp only; omega, by dsimp only; omega, by dsimp only; omega, by dsimp only; omega, by dsimp only; omega, by dsimp only; omega, by dsimp only; omega, by dsimp only; omega, by dsimp only; omega, by dsimp only; omega, by dsimp only; omega, by dsimp only; omega, by dsimp only; omega, by dsimp only; omega, by dsimp only; omega, by dsimp only; omega, by dsimp only; omega, by dsimp only; omega, by dsimp only; omega, by simp [ByteArray.size]⟩
  have hpk : pkOf x0 1 0 x4 [a0, b0, e0, d0, a1, b1, e1, d1, a2, b2, e2, d2, a3, b3, e3, d3, a4, b4, e4, d4] = ⟨x0, 1, x4, false, (n4 a0 b0 e0 d0), (n4 a1 b1 e1 d1), (n4 a2 b2 e2 d2), (n4 a3 b3 e3 d3), (n4 a4 b4 e4 d4), 0, none, 0, 0, ⟨#[]⟩⟩ := rfl
  have hisF := isF_eq (x0 := x0) (x1 := 1) (x2 := 0) (x4 := x4) (r := [a0, b0, e0, d0, a1, b1, e1, d1, a2, b2, e2, d2, a3, b3, e3, d3, a4, b4, e4, d4]) (by simp) rfl
  rw [hpk] at hisF
  clear hby q0 q4 m0 m1 m2 m3 m4
  cases hg : Pkt.goodB ⟨x0, 1, x4, false, (n4 a0 b0 e0 d0), (n4 a1 b1 e1 d1), (n4 a2 b2 e2 d2), (n4 a3 b3 e3 d3), (n4 a4 b4 e4 d4), 0, none, 0, 0, ⟨#[]⟩⟩
  · go_wp2_with (first | (go_at_call 90; refine (isPacket_any ⟨x0, 1, x4, false, (n4 a0 b0 e0 d0), (n4 a1 b1 e1 d1), (n4 a2 b2 e2 d2), (n4 a3 b3 e3 d3), (n4 a4 b4 e4 d4), 0, none, 0, 0, ⟨#[]⟩⟩ hwf _).mono ?_; rintro e w9 ⟨rfl, hb9⟩) | (go_at_call 85; refine (require_no _).mono ?_; rintro e w10 ⟨rfl, hww⟩; rw [hww]))
    exact ⟨rfl, grown_below hWx hb9, .inr ⟨hisF.trans hg, rfl⟩⟩
  · go_wp2_with (first | (go_at_call 90; refine (isPacket_any ⟨x0, 1, x4, false, (n4 a0 b0 e0 d0), (n4 a1 b1 e1 d1), (n4 a2 b2 e2 d2), (n4 a3 b3 e3 d3), (n4 a4 b4 e4 d4), 0, none, 0, 0, ⟨#[]⟩⟩ hwf _).mono ?_; rintro e w9 ⟨rfl, hb9⟩; have hBy := hBx.below hb9; have hCy := hCx.below hb9; obtain ⟨y0, y1, y2, y3, y4, y5, y6, y7, y8, y9, y10, y11⟩ := hBy.cell; obtain ⟨k0, k1, k2, k3, k4, k5, k6, k7, k8, k9, k10, k11⟩ := hCy.cell; have kf := hCy.free; dsimp only at y0 y1 y2 y3 y4 y5 y6 y7 y8 y9 y10 y11; dsimp only [Pkt.zero] at k0 k1 k2 k3 k4 k5 k6 k7 k8 k9 k10 k11) | (go_at_call 85; refine (require_ok _).mono ?_; rintro e w9 ⟨rfl, rfl⟩))
    have hFin := hCy.storeAll ⟨x0, 1, x4, false, (n4 a0 b0 e0 d0), (n4 a1 b1 e1 d1), (n4 a2 b2 e2 d2), (n4 a3 b3 e3 d3), (n4 a4 b4 e4 d4), 0, none, 0, 0, ⟨#[]⟩⟩
    have hWF := grown_store (grown_below hWx hb9) (C := W.heap.size) (Nat.le_refl _) ⟨x0, 1, x4, false, (n4 a0 b0 e0 d0), (n4 a1 b1 e1 d1), (n4 a2 b2 e2 d2), (n4 a3 b3 e3 d3), (n4 a4 b4 e4 d4), 0, none, 0, 0, ⟨#[]⟩⟩
    clear y0 y1 y2 y3 y4 y5 y6 y7 y8 y9 y10 y11 k0 k1 k2 k3 k4 k5 k6 k7 k8 k9 k10 k11 kf hBy hCy
    dsimp only [store12] at hFin hWF
    generalize World.setCell _ _ _ = wF at hFin hWF ⊢
    obtain ⟨y0, y1, y2, y3, y4, y5, y6, y7, y8, y9, y10, y11⟩ := hFin.cell
    dsimp only at y0 y1 y2 y3 y4 y5 y6 y7 y8 y9 y10 y11
    refine bodyPost_ret (v := Pkt.val ⟨x0, 1, x4, false, (n4 a0 b0 e0 d0), (n4 a1 b1 e1 d1), (n4 a2 b2 e2 d2), (n4 a3 b3 e3 d3), (n4 a4 b4 e4 d4), 0, none, 0, 0, ⟨#[]⟩⟩) (by simp [results, Tryz.results56, go_sem, y0, y1, y2, y3, y4, y5, y6, y7, y8, y9, y10, y11]) rfl ?_
    exact ⟨hWF, .inl ⟨hisF.trans hg, _, rfl, _, _, _, _, _, _, none, 0, rfl, rfl, rfl, fun j hj => absurd hj (by simp [lsOf]), fun b hb => by cases hb⟩⟩
end Go.Proofs.YtakaadcpaeiccabGreat
