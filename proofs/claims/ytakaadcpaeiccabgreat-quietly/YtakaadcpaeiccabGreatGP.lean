import Derived.Test.YtakaadcpaeiccabGreatD4
import Derived.Test.YtakaadcpaeiccabGreatGV
import Derived.Test.YtakaadcpaeiccabGreatB1
namespace Go.Proofs.YtakaadcpaeiccabGreat
open Go.RowKit

theorem num_drop (xs : List Int) (k : Nat) {a b c d : Int} {ys : List Int} (h : xs.drop (4 * k) = a :: b :: c :: d :: ys) : num xs k = n4 a b c d := by
  have g : ∀ i x, (a :: b :: c :: d :: ys)[i]? = some x → xs.getD (4 * k + i) 0 = x := by
    intro i x hx
    rw [← h, List.getElem?_drop] at hx
    simp [List.getD, hx]
  unfold num
  rw [show 4 * k = 4 * k + 0 from rfl, g 0 a rfl, g 1 b rfl, g 2 c rfl, g 3 d rfl]

theorem plOf_succ (k : Nat) (xs : List Int) : plOf (k + 1) xs = plOf k xs ++ [(num xs (2 * k), num xs (2 * k + 1))] := by
  simp [plOf, List.range_succ]
theorem LC_append (a b : List (Int × Int)) : LC (a ++ b) = LC a ++ LC b := by simp [LC]
theorem plOf_length (k : Nat) (xs : List Int) : (plOf k xs).length = k := by simp [plOf]

theorem set_two (A : List Value) (u v x y : Value) (T : List Value) : ((A ++ u :: v :: T).set A.length x).set (A.length + 1) y = A ++ [x, y] ++ T := by
  simp [List.set_append_right]

theorem made_u32 (m : Nat) : ∀ v ∈ (madeCells #[Value.int .u32 0, Value.int .u32 0] m).toList, ∃ z, v = .int .u32 z := by
  intro v hv
  simp only [madeCells, Array.toList_map, List.mem_map] at hv
  obtain ⟨i, _, rfl⟩ := hv
  rcases Nat.mod_two_eq_zero_or_one i with h | h <;> simp [h]

def LostP (R n : Nat) (xs : List Int) (W : World) (e : Ending) (w' : World) : Prop :=
  W.grownBy w' (some R) ∧ ((8 * n ≤ xs.length ∧ (∃ g, W.heap.size ≤ g ∧ e = .returned (.slice (some ⟨g, 0, none⟩) n n) ∧ HoldsA w' (some ⟨g, 0, none⟩) (plOf n xs)) ∧ Rd R (xs.drop (8 * n)) w') ∨ (xs.length < 8 * n ∧ e = .panicked broken))

theorem HoldsA.ofOwn {W : World} {base g n cap : Nat} {L : List (Int × Int)} (h : W.ownsRow base 237 2 (.slice (some ⟨g, 0, none⟩) n cap) n (LC L)) (hb : ∀ x ∈ L, 0 ≤ x.1 ∧ x.1 < 4294967296 ∧ 0 ≤ x.2 ∧ x.2 < 4294967296) : HoldsA W (some ⟨g, 0, none⟩) L := by
  have hl := h.1
  rw [LC_length] at hl
  have hlt : g < W.heap.size := by
    rcases h.2 with ⟨hh, _⟩ | ⟨g', _, _, hh, _, hg, _⟩
    · simp at hh
    · simp only [Value.slice.injEq, Option.some.injEq, Addr.mk.injEq, and_true] at hh
      obtain ⟨rfl, _⟩ := hh
      exact (Array.getElem?_eq_some_iff.1 hg).1
  intro j hj
  have hx := hb _ (List.getElem_mem hj)
  have hg := LC_get L j
  rw [List.getElem?_eq_getElem hj] at hg
  refine ⟨g, 0, L[j].1, L[j].2, rfl, hlt, List.getElem?_eq_getElem hj, hx.1, hx.2.1, hx.2.2.1, hx.2.2.2, ?_, ?_⟩
  · rw [Nat.zero_add, h.cellAt (j * 2) (by omega), hg.1]; rfl
  · rw [Nat.zero_add, h.cellAt (j * 2 + 1) (by omega), hg.2]; rfl

theorem num_b {xs : List Int} (h : ∀ x ∈ xs, 0 ≤ x ∧ x ≤ 255) (i : Nat) : 0 ≤ num xs i ∧ num xs i < 4294967296 := by
  have g : ∀ j, 0 ≤ xs.getD j 0 ∧ xs.getD j 0 ≤ 255 := by
    intro j
    rcases Nat.lt_or_ge j xs.length with hj | hj
    · have := h _ (List.getElem_mem hj)
      simpa [List.getD, List.getElem?_eq_getElem hj] using this
    · simp [List.getD, List.getElem?_eq_none hj]
  exact n4_b (g _) (g _) (g _) (g _)
theorem plOf_b {xs : List Int} (h : ∀ x ∈ xs, 0 ≤ x ∧ x ≤ 255) (n : Nat) : ∀ x ∈ plOf n xs, 0 ≤ x.1 ∧ x.1 < 4294967296 ∧ 0 ≤ x.2 ∧ x.2 < 4294967296 := by
  intro x hx
  simp only [plOf, List.mem_map] at hx
  obtain ⟨i, _, rfl⟩ := hx
  have a := num_b h (2 * i)
  have b := num_b h (2 * i + 1)
  exact ⟨a.1, a.2, b.1, b.2⟩

set_option maxRecDepth 100000 in
set_option maxHeartbeats 4000000 in
theorem lost_any (R n : Nat) (hn : n ≤ 255) (xs : List Int) (W : World) (h : Rd R xs W) :
    Calls Tryz.prog 88 #[.pointer (some ⟨R, 0, none⟩), .int .i64 n] W fun e w' => LostP R n xs W e w' := by
  obtain ⟨i0, hi, hz0, hz1, hz2⟩ := info_parts info_lost
  have hR := h.lt
  have hby := h.bytes
  go_enter Tryz.func88, Tryz.ntmps88
  go_wp2_with (at_make; refine wpList_make_full _ rfl _ _ 71 rfl W.heap.size 237 i0 (.agg #[.int .u32 0, .int .u32 0]) 2 Tryz.underlying71 hi hz0 hz1 .i64 .i64 n n n rfl rfl rfl rfl ?c1 ?c2 ?c3 ?_)
  case c1 => rw [hz2]; omega
  case c2 => unfold maxLen; omega
  case c3 => exact Nat.le_refl _
  intro w1 hown hg1
  have hb1 : Below W.heap.size W w1 := ⟨hg1.os, hg1.tape, hg1.output, hg1.size, fun k hk => hg1.block k hk (by simp)⟩
  have hr1 := h.kept hb1
  have hG1 : W.grownBy w1 (some R) := ⟨hg1.os, hg1.tape, hg1.output, hg1.size, fun k hk _ => hg1.block k hk (by simp)⟩
  have hT : ∀ v ∈ (madeCells #[Value.int .u32 0, Value.int .u32 0] (n * 2)).toList, ∃ z, v = .int .u32 z := made_u32 _
  generalize (madeCells #[Value.int .u32 0, Value.int .u32 0] (n * 2)).toList = T0 at hown hT
  generalize hG : W.heap.size = G at hown ⊢
  clear hg1 hb1 h hi hz0 hz1 hz2
  go_wp2_with fail
  go_loopw [11] (fun i wr => ∃ (k : Nat) (T : List Value), k ≤ n ∧ i = .int .i64 k ∧ 8 * k ≤ xs.length ∧ Rd R (xs.drop (8 * k)) wr ∧ wr.ownsRow G 237 2 (.slice (some ⟨G, 0, none⟩) n n) n (LC (plOf k xs) ++ T) ∧ W.grownBy wr (some R) ∧ (∀ v ∈ T, ∃ z, v = .int .u32 z)) (fun i _ => n - (intOf i).toNat)
  case atStart => exact ⟨0, T0, Nat.zero_le _, rfl, Nat.zero_le _, hr1, hown, hG1, hT⟩
  case round =>
    clear hr1 hown hG1 hT
    obtain ⟨k, T, hk, rfl, h8, hr, ho, hg, hT⟩ := hrel
    by_cases hlt : k < n
    · go_wp2_with fail
      refine (number_any R _ _ hr).mono ?_
      rintro e w2 (⟨a, b, c, d, ys, hd1, rfl, hr2, hg2, _⟩ | ⟨hs, rfl, rfl⟩)
      case inr =>
        rw [List.length_drop] at hs
        exact ⟨rfl, hg, .inr ⟨by omega, rfl⟩⟩
      have ho2 := ho.kept hg2 (by right; simp [Value.ownBlock]; omega)
      have hG2 := grown_trans hg hg2
      clear hr hg2 ho hg
      go_wp2_with fail
      refine (number_any R _ _ hr2).mono ?_
      rintro e w3 (⟨a', b', c', d', zs, rfl, rfl, hr3, hg3, _⟩ | ⟨hs, rfl, rfl⟩)
      case inr =>
        have := congrArg List.length hd1
        simp only [List.length_drop, List.length_cons] at this
        exact ⟨rfl, hG2, .inr ⟨by omega, rfl⟩⟩
      have ho3 := ho2.kept hg3 (by right; simp [Value.ownBlock]; omega)
      have hG3 := grown_trans hG2 hg3
      clear hr2 hg3 ho2 hG2
      have hl3 := ho3.1
      rw [List.length_append, LC_length, plOf_length] at hl3
      obtain ⟨u, v, T', rfl⟩ : ∃ u v T', T = u :: v :: T' := by
        match T, hl3 with
        | [], h => simp at h; omega
        | [_], h => simp at h; omega
        | u :: v :: T', _ => exact ⟨u, v, T', rfl⟩
      obtain ⟨z0, rfl⟩ := hT u (by simp)
      obtain ⟨z1, rfl⟩ := hT v (by simp)
      have hT' : ∀ v ∈ T', ∃ z, v = .int .u32 z := fun v hv => hT v (by simp [hv])
      have c0 : w3.cell? ⟨G, k * 2, none⟩ = some (.int .u32 z0) := by
        rw [ho3.cellAt (k * 2) (by omega), List.getElem?_append_right (by rw [LC_length, plOf_length]; omega), LC_length, plOf_length]
        simp
      have c1 : w3.cell? ⟨G, k * 2 + 1, none⟩ = some (.int .u32 z1) := by
        rw [ho3.cellAt (k * 2 + 1) (by omega), List.getElem?_append_right (by rw [LC_length, plOf_length]; omega), LC_length, plOf_length]
        simp
      have f0 := ho3.frozenAt (k * 2)
      have f1 := ho3.frozenAt (k * 2 + 1)
      have hkn : (k : Int) < (n : Int) := by omega
      clear hT
      have n0 : num xs (2 * k) = n4 a b c d := num_drop xs (2 * k) (by rw [show 4 * (2 * k) = 8 * k by omega]; exact hd1)
      have n1 : num xs (2 * k + 1) = n4 a' b' c' d' := num_drop xs (2 * k + 1) (ys := zs) (by
        rw [show 4 * (2 * k + 1) = 8 * k + 4 by omega, ← List.drop_drop, hd1]; rfl)
      have hdr : xs.drop (8 * (k + 1)) = zs := by
        rw [show 8 * (k + 1) = 8 * k + 8 by omega, ← List.drop_drop, hd1]; rfl
      have hle : 8 * (k + 1) ≤ xs.length := by
        have := congrArg List.length hd1
        simp only [List.length_drop, List.length_cons] at this
        omega
      have hlc : LC (plOf (k + 1) xs) = LC (plOf k xs) ++ [.int .u32 (n4 a b c d), .int .u32 (n4 a' b' c' d')] := by
        rw [plOf_succ, LC_append, n0, n1]; rfl
      have hst := (ho3.stored (k * 2) (.int .u32 (n4 a b c d))).1.stored (k * 2 + 1) (.int .u32 (n4 a' b' c' d'))
      have hset := set_two (LC (plOf k xs)) (.int .u32 z0) (.int .u32 z1) (.int .u32 (n4 a b c d)) (.int .u32 (n4 a' b' c' d')) T'
      rw [LC_length, plOf_length] at hset
      rw [hset] at hst
      have hst' := hst.1
      rw [← hlc] at hst'
      have hrA := hr3.setCell (B := G) (by omega) (i := k * 2) (.int .u32 z0) (.int .u32 (n4 a b c d)) (by simp) c0
      have c1' : (w3.setCell ⟨G, k * 2, none⟩ (.int .u32 (n4 a b c d))).cell? ⟨G, k * 2 + 1, none⟩ = some (.int .u32 z1) := by
        rw [World.cell?_setCell_other _ _ _ _ (by simp)]; exact c1
      have hrB := hrA.setCell (B := G) (by omega) (i := k * 2 + 1) (.int .u32 z1) (.int .u32 (n4 a' b' c' d')) (by simp) c1'
      have hgB := grown_new (grown_new hG3 (a := ⟨G, k * 2, none⟩) (by simp; omega) (.int .u32 (n4 a b c d))) (a := ⟨G, k * 2 + 1, none⟩) (by simp; omega) (.int .u32 (n4 a' b' c' d'))
      rw [← hdr] at hrB
      clear n0 n1 hdr hlc hst hset hd1 hl3 c1' hrA hr3 hG3 ho3
      go_wp2
      go_roundw
      case rel => exact ⟨k + 1, T', by omega, by go_num, hle, hrB, hst', hgB, hT'⟩
      case measure => simp [intOf]; omega
    · obtain rfl : k = n := by omega
      clear hk hlt
      have hl3 := ho.1
      rw [List.length_append, LC_length, plOf_length] at hl3
      obtain rfl : T = [] := List.eq_nil_of_length_eq_zero (by omega)
      rw [List.append_nil] at ho
      clear hl3 hT
      go_wp2
      go_ret
      exact ⟨hg, .inl ⟨h8, ⟨G, Nat.le_of_eq hG, rfl, HoldsA.ofOwn ho (plOf_b hby k)⟩, hr⟩⟩
end Go.Proofs.YtakaadcpaeiccabGreat

namespace Go.Proofs.YtakaadcpaeiccabGreat
open Go.RowKit

theorem HoldsA.far {W : World} {g : Nat} {L : List (Int × Int)} (h : HoldsA W (some ⟨g, 0, none⟩) L) {a : Addr} (ha : a.block ≠ g) (v : Value) : HoldsA (W.setCell a v) (some ⟨g, 0, none⟩) L := by
  intro j hj
  obtain ⟨lb, lo, d, s, h1, h2, h3, h4, h5, h6, h7, h8, h9⟩ := h j hj
  have e := h1
  simp only [Option.some.injEq, Addr.mk.injEq, and_true] at e
  obtain ⟨rfl, rfl⟩ := e
  exact ⟨g, 0, d, s, rfl, by simpa using h2, h3, h4, h5, h6, h7, (setCell_far W a _ v (fun e => ha e.symm)).trans h8, (setCell_far W a _ v (fun e => ha e.symm)).trans h9⟩
theorem HoldsA.store12 {W : World} {g C : Nat} {L : List (Int × Int)} (h : HoldsA W (some ⟨g, 0, none⟩) L) (hC : C ≠ g) (p : Pkt) : HoldsA (store12 W C p) (some ⟨g, 0, none⟩) L :=
  HoldsA.far (HoldsA.far (HoldsA.far (HoldsA.far (HoldsA.far (HoldsA.far (HoldsA.far (HoldsA.far (HoldsA.far (HoldsA.far (HoldsA.far (HoldsA.far h (a := ⟨C, 0, none⟩) hC _) (a := ⟨C, 1, none⟩) hC _) (a := ⟨C, 2, none⟩) hC _) (a := ⟨C, 3, none⟩) hC _) (a := ⟨C, 4, none⟩) hC _) (a := ⟨C, 5, none⟩) hC _) (a := ⟨C, 6, none⟩) hC _) (a := ⟨C, 7, none⟩) hC _) (a := ⟨C, 8, none⟩) hC _) (a := ⟨C, 9, none⟩) hC _) (a := ⟨C, 10, none⟩) hC _) (a := ⟨C, 11, none⟩) hC _
end Go.Proofs.YtakaadcpaeiccabGreat
