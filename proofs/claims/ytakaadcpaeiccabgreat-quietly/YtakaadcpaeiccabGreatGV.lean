import Derived.Test.YtakaadcpaeiccabGreatGW
namespace Go.Proofs.YtakaadcpaeiccabGreat
open Go.RowKit

end Go.Proofs.YtakaadcpaeiccabGreat

namespace Go.Proofs.YtakaadcpaeiccabGreat
open Go.RowKit

end Go.Proofs.YtakaadcpaeiccabGreat

namespace Go.Proofs.YtakaadcpaeiccabGreat
open Go.RowKit

end Go.Proofs.YtakaadcpaeiccabGreat

namespace Go.Proofs.YtakaadcpaeiccabGreat
open Go.RowKit

theorem append_pay (xs : List Int) (s : ByteArray) : strOfNums xs ++ s = strOfNums (xs ++ strNums s) := by
  rw [← strOfNums_append, strOfNums_strNums]

end Go.Proofs.YtakaadcpaeiccabGreat

namespace Go.Proofs.YtakaadcpaeiccabGreat
open Go.RowKit

/-- The box, and one that is lost. -/
@[reducible] def InBL (p : Pkt) (w : World) (lb lo : Nat) (d s : Int) (W : World) : Prop :=
  InB p w W ∧ W.cell? ⟨lb, lo, none⟩ = some (.int .u32 d) ∧ W.cell? ⟨lb, lo + 1, none⟩ = some (.int .u32 s)
theorem InBL.drew {p : Pkt} {w : World} {lb lo : Nat} {d s : Int} {W : World} (h : InBL p w lb lo d s W) : InBL p w lb lo d s W.drew := ⟨h.1.drew', h.2⟩
theorem InBL.below {p : Pkt} {w : World} {lb lo : Nat} {d s : Int} {W W1 : World} (h : InBL p w lb lo d s W) (hlb : lb < w.heap.size) (hb : Below W.heap.size W W1) : InBL p w lb lo d s W1 := by
  have hs := h.1.2.2.2.2.2.2.2.2.2.2.2.2.1
  exact ⟨h.1.below hb, (hb.cell (p := ⟨lb, lo, none⟩) (Nat.lt_trans hlb hs)).trans h.2.1, (hb.cell (p := ⟨lb, lo + 1, none⟩) (Nat.lt_trans hlb hs)).trans h.2.2⟩

end Go.Proofs.YtakaadcpaeiccabGreat

namespace Go.Proofs.YtakaadcpaeiccabGreat
open Go.RowKit

end Go.Proofs.YtakaadcpaeiccabGreat

namespace Go.Proofs.YtakaadcpaeiccabGreat
open Go.RowKit

end Go.Proofs.YtakaadcpaeiccabGreat

namespace Go.Proofs.YtakaadcpaeiccabGreat
open Go.RowKit

end Go.Proofs.YtakaadcpaeiccabGreat

namespace Go.Proofs.YtakaadcpaeiccabGreat
open Go.RowKit

end Go.Proofs.YtakaadcpaeiccabGreat

namespace Go.Proofs.YtakaadcpaeiccabGreat
open Go.RowKit

theorem good_parts {p : Pkt} (h : p.goodB = true) : p.likeB = true ∧ 1 ≤ p.ttl ∧ p.ttl ≤ 255 ∧ 0 ≤ p.hops ∧ p.hops ≤ 255 ∧ p.pay.size ≤ 16 ∧ (p.kind = 1 ∨ p.kind = 2 ∨ p.kind = 9 ∨ (p.kind = 3 ∧ 1 ≤ p.ln ∧ p.ln ≤ 8)) := by
  rw [good_like] at h
  simp only [Bool.and_eq_true, decide_eq_true_eq, Pkt.kindB] at h
  obtain ⟨⟨⟨⟨h1, h2⟩, h3⟩, h4⟩, h5⟩ := h
  exact ⟨h1, h2.1, h2.2, h3.1, h3.2, h4, h5⟩

theorem like_parts {p : Pkt} (h : p.likeB = true) : p.ln = p.ownP.ln ∧ p.unk = p.ownP.unk ∧ p.hops = p.ownP.hops ∧ p.pay = p.ownP.pay := by
  simp only [Pkt.likeB, alikeB, Bool.and_eq_true, decide_eq_true_eq] at h
  exact ⟨h.1, h.2.2.2.2.1, h.2.2.2.1, h.2.2.2.2.2.2.2.2.2.2.2⟩

theorem lost_nil {L : List (Int × Int)} (h : L.length = 0) : lostB L L.length = [] := by
  obtain rfl := List.eq_nil_of_length_eq_zero h
  rfl
theorem strNums_nil : strNums ⟨#[]⟩ = [] := rfl

end Go.Proofs.YtakaadcpaeiccabGreat

namespace Go.Proofs.YtakaadcpaeiccabGreat
open Go.RowKit

/-- The cells of a list of what is lost, behind an address. -/
def HoldsA (w : World) (ao : Option Addr) (L : List (Int × Int)) : Prop :=
  ∀ j, j < L.length → ∃ lb lo d s, ao = some ⟨lb, lo, none⟩ ∧ lb < w.heap.size ∧ L[j]? = some (d, s) ∧ 0 ≤ d ∧ d < 4294967296 ∧ 0 ≤ s ∧ s < 4294967296 ∧
    w.cell? ⟨lb, lo + j * 2, none⟩ = some (.int .u32 d) ∧ w.cell? ⟨lb, lo + j * 2 + 1, none⟩ = some (.int .u32 s)

theorem HoldsA.below {w w' : World} {ao : Option Addr} {L : List (Int × Int)} (h : HoldsA w ao L) (hb : Below w.heap.size w w') : HoldsA w' ao L := by
  intro j hj
  obtain ⟨lb, lo, d, s, h1, h2, h3, h4, h5, h6, h7, h8, h9⟩ := h j hj
  exact ⟨lb, lo, d, s, h1, Nat.lt_of_lt_of_le h2 hb.size, h3, h4, h5, h6, h7, (hb.cell (p := ⟨lb, lo + j * 2, none⟩) h2).trans h8, (hb.cell (p := ⟨lb, lo + j * 2 + 1, none⟩) h2).trans h9⟩

theorem conv_row (W : World) (base : Nat) (v : Value) (xs : List Int) (h : W.ownsRow base 5 1 v xs.length (U xs)) (hv : v ≠ .slice none 0 0) :
    (convert 58 9 v).run Tryz.prog W = .ok (.string (strOfNums xs)) W := by
  rcases h.2 with ⟨rfl, _⟩ | ⟨g, cap, cur, rfl, _⟩
  · exact absurd rfl hv
  · refine run_convert_bytes_arg (P := Tryz.prog) W 58 5 Tryz.underlying58 Tryz.underlying5 g 0 xs.length cap xs rfl ?_ 9 Tryz.underlying9
    intro i hi
    rw [Nat.zero_add]
    rw [h.cellAt i (by simpa using hi)]
    simp [U, hi]
end Go.Proofs.YtakaadcpaeiccabGreat

namespace Go.Proofs.YtakaadcpaeiccabGreat
open Go.RowKit

theorem info_lost : (Tryz.prog.info? 237).map (fun i => (i.zero, i.size, i.bytes)) = some (some (.agg #[.int .u32 0, .int .u32 0]), 2, 8) := by kernel_rfl

theorem goodB_la (p : Pkt) (a : Option Addr) (c : Nat) : ({ p with la := a, lc := c } : Pkt).goodB = p.goodB := by
  unfold Pkt.goodB
  congr 1
  unfold Pkt.forP
  dsimp only
  split
  · rfl
  split
  · rfl
  split
  · rfl
  split
  · rfl
  · rfl

/-- The cells of a list of what is lost. -/
def LC (L : List (Int × Int)) : List Value := L.flatMap fun x => [.int .u32 x.1, .int .u32 x.2]
theorem LC_length (L : List (Int × Int)) : (LC L).length = L.length * 2 := by
  induction L with
  | nil => rfl
  | cons a L ih =>
    simp only [LC, List.flatMap_cons, List.length_append, List.length_cons, List.length_nil] at ih ⊢
    omega
theorem LC_get (L : List (Int × Int)) (j : Nat) : (LC L)[j * 2]? = (L[j]?).map (fun x => Value.int .u32 x.1) ∧ (LC L)[j * 2 + 1]? = (L[j]?).map (fun x => Value.int .u32 x.2) := by
  induction L generalizing j with
  | nil => simp [LC]
  | cons a L ih =>
    cases j with
    | zero => simp [LC]
    | succ j =>
      have h := ih j
      simp only [LC, List.flatMap_cons] at h ⊢
      rw [show (j + 1) * 2 = j * 2 + 1 + 1 by omega]
      simpa using h

theorem LC_one (L : List (Int × Int)) : ∀ u ∈ LC L, u.oneCell' = true := by
  intro u hu
  simp only [LC, List.mem_flatMap, List.mem_cons, List.not_mem_nil, or_false] at hu
  obtain ⟨x, _, rfl | rfl⟩ := hu <;> rfl

theorem src_lost {W : World} {ao : Option Addr} {L : List (Int × Int)} (h : HoldsA W ao L) (n c : Nat) (hn : L.length = n) :
    Src Tryz.prog 2 71 (.slice ao n c) n (LC L) W := by
  subst hn
  by_cases h0 : L.length = 0
  · obtain rfl := List.eq_nil_of_length_eq_zero h0
    cases ao with
    | none => exact Src.ofNil W Tryz.underlying71 c
    | some a => exact Src.ofSlice W Tryz.underlying71 a 0 c [] rfl (fun j u hj => by simp at hj) (fun u hu => by cases hu)
  · obtain ⟨lb, lo, _, _, rfl, _⟩ := h 0 (by omega)
    refine Src.ofSlice W Tryz.underlying71 _ _ c _ (LC_length L) ?_ (LC_one L)
    intro j u hj
    have hlt : j < (LC L).length := by
      rcases Nat.lt_or_ge j (LC L).length with h | h
      · exact h
      · rw [List.getElem?_eq_none h] at hj; cases hj
    rw [LC_length] at hlt
    obtain ⟨lb', lo', d, s, he, _, hds, _, _, _, _, h8, h9⟩ := h (j / 2) (by omega)
    simp only [Option.some.injEq, Addr.mk.injEq, and_true] at he
    obtain ⟨rfl, rfl⟩ := he
    have hadd : (⟨lb, lo, none⟩ : Addr).add j = ⟨lb, lo + j, none⟩ := by unfold Addr.add; split <;> simp_all
    rw [hadd]
    have hg := LC_get L (j / 2)
    rw [hds] at hg
    rcases Nat.mod_two_eq_zero_or_one j with hm | hm
    · rw [show j / 2 * 2 = j by omega] at hg h8
      rw [h8, ← hj, hg.1]; rfl
    · rw [show j / 2 * 2 + 1 = j by omega] at hg
      rw [show lo + j / 2 * 2 + 1 = lo + j by omega] at h9
      rw [h9, ← hj, hg.2]; rfl

/-- The row that the copy of the list lies in. -/
theorem HoldsA.ofRow {W W0 : World} {base : Nat} {v : Value} {n : Nat} {L : List (Int × Int)} {ao : Option Addr} (h : W.ownsRow base 237 2 v n (LC L)) (hv : v ≠ .slice none 0 0) (h0 : HoldsA W0 ao L) :
    ∃ g cap, v = .slice (some ⟨g, 0, none⟩) n cap ∧ base ≤ g ∧ g < W.heap.size ∧ HoldsA W (some ⟨g, 0, none⟩) L := by
  rcases h.2 with ⟨rfl, _⟩ | ⟨g, cap, cur, rfl, hb, hg, _⟩
  · exact absurd rfl hv
  · have hlt := (Array.getElem?_eq_some_iff.1 hg).1
    refine ⟨g, cap, rfl, hb, hlt, fun j hj => ?_⟩
    obtain ⟨_, _, d, s, _, _, hds, h4, h5, h6, h7, _, _⟩ := h0 j hj
    have hl := h.1
    rw [LC_length] at hl
    have hg := LC_get L j
    rw [hds] at hg
    refine ⟨g, 0, d, s, rfl, hlt, hds, h4, h5, h6, h7, ?_, ?_⟩
    · rw [Nat.zero_add, h.cellAt (j * 2) (by omega), hg.1]; rfl
    · rw [Nat.zero_add, h.cellAt (j * 2 + 1) (by omega), hg.2]; rfl

/-- What the law's rounds hold on to. -/
structure EInv (p q : Pkt) (L : List (Int × Int)) (w W : World) : Prop where
  a : InC p w.heap.size W
  b : InC q (w.heap.size + 1) W
  la : HoldsA W p.la L
  lb : HoldsA W q.la L
  below : Below w.heap.size w W
  sz : w.heap.size + 2 ≤ W.heap.size

theorem EInv.step {p q : Pkt} {L : List (Int × Int)} {w W W' : World} (h : EInv p q L w W) (hb : Below W.heap.size W W') : EInv p q L w W' :=
  ⟨h.a.below hb (by have := h.sz; omega), h.b.below hb (by have := h.sz; omega), h.la.below hb, h.lb.below hb, h.below.trans (hb.mono (by have := h.sz; omega)), Nat.le_trans h.sz hb.size⟩

theorem setCell_far (W : World) (a b : Addr) (v : Value) (h : b.block ≠ a.block) : (W.setCell a v).cell? b = W.cell? b :=
  World.cell?_of_block (Below.heap_setCell W a v b.block h)

theorem EInv.start (p : Pkt) (L : List (Int × Int)) (w W1 : World) (v' : Value) (hL : HoldsA w p.la L)
    (hown : W1.ownsRow (w.heap.size + 2) 237 2 v' p.ln (LC L)) (hnn : v' ≠ .slice none 0 0)
    (hB : Below (w.heap.size + 2) (((w.alloc p.box).alloc p.box).alloc (.cells #[] 237)) W1) :
    (W1.cell? ⟨w.heap.size + 1, 10, none⟩ = some (.slice p.la p.ln p.lc) ∧ W1.frozen? ⟨w.heap.size + 1, 10, none⟩ = false) ∧
    ∃ g cap, v' = .slice (some ⟨g, 0, none⟩) p.ln cap ∧ EInv p { p with la := some ⟨g, 0, none⟩, lc := cap } L w (W1.setCell ⟨w.heap.size + 1, 10, none⟩ v') := by
  have hsz : (((w.alloc p.box).alloc p.box).alloc (.cells #[] 237)).heap.size = w.heap.size + 3 := by simp
  have hw1 := hB.size
  rw [hsz] at hw1
  have hb0 : Below w.heap.size w (((w.alloc p.box).alloc p.box).alloc (.cells #[] 237)) := (((Below.refl w.heap.size w).alloc (Nat.le_refl _) p.box).alloc (by simp) p.box).alloc (by simp; omega) _
  have hb1 : Below w.heap.size w W1 := hb0.trans (hB.mono (by omega))
  have hA := InC.new p w
  have hA' : InC p w.heap.size (((w.alloc p.box).alloc p.box).alloc (.cells #[] 237)) :=
    hA.below (B := w.heap.size + 1) (((Below.refl _ _).alloc (by simp) _).alloc (by simp) _) (by omega)
  have hQ := InC.new p (w.alloc p.box)
  have hQ' : InC p (w.heap.size + 1) (((w.alloc p.box).alloc p.box).alloc (.cells #[] 237)) := by
    rw [World.size_alloc] at hQ
    exact hQ.below (B := w.heap.size + 2) ((Below.refl _ _).alloc (by simp) _) (by omega)
  have hA1 := hA'.below hB (by omega)
  have hQ1 := hQ'.below hB (by omega)
  have hfz : W1.frozen? ⟨w.heap.size + 1, 10, none⟩ = false := by
    rw [hB.frozen (p := ⟨w.heap.size + 1, 10, none⟩) (by simp)]
    have h1 : (((w.alloc p.box).alloc p.box).alloc (.cells #[] 237)).frozen? ⟨w.heap.size + 1, 10, none⟩ = ((w.alloc p.box).alloc p.box).frozen? ⟨w.heap.size + 1, 10, none⟩ :=
      World.frozen?_of_block (Below.heap_alloc _ _ _ (by simp))
    rw [h1]
    have h2 := World.frozen?_alloc_at (w := w.alloc p.box) (c := #[.int .i64 p.ttl, .int .i64 p.kind, .int .i64 p.hops, .bool p.unk, .int .u32 p.id, .int .u32 p.dest, .int .u32 p.dseq, .int .u32 p.frm, .int .u32 p.fseq, .int .u32 p.life, .slice p.la p.ln p.lc, .string p.pay]) (t := 73) (n := w.heap.size + 1) (i := 10) (by simp)
    exact h2
  refine ⟨⟨hQ1.2.2.2.2.2.2.2.2.2.2.1, hfz⟩, ?_⟩
  obtain ⟨g, cap, rfl, hg0, hg1, hLg⟩ := HoldsA.ofRow hown hnn hL
  refine ⟨g, cap, rfl, ?_⟩
  have far : ∀ b : Addr, b.block ≠ w.heap.size + 1 → (W1.setCell ⟨w.heap.size + 1, 10, none⟩ (.slice (some ⟨g, 0, none⟩) p.ln cap)).cell? b = W1.cell? b := fun b hb => setCell_far W1 _ b _ hb
  have hcell10 : (W1.setCell ⟨w.heap.size + 1, 10, none⟩ (.slice (some ⟨g, 0, none⟩) p.ln cap)).cell? ⟨w.heap.size + 1, 10, none⟩ = some (.slice (some ⟨g, 0, none⟩) p.ln cap) :=
    World.cell?_setCell_same _ _ _ hQ1.2.2.2.2.2.2.2.2.2.2.1
  have other : ∀ i, i ≠ 10 → (W1.setCell ⟨w.heap.size + 1, 10, none⟩ (.slice (some ⟨g, 0, none⟩) p.ln cap)).cell? ⟨w.heap.size + 1, i, none⟩ = W1.cell? ⟨w.heap.size + 1, i, none⟩ := fun i hi =>
    World.cell?_setCell_other _ _ _ _ (fun e => hi (by cases e; rfl))
  obtain ⟨a0, a1, a2, a3, a4, a5, a6, a7, a8, a9, a10, a11⟩ := hA1
  obtain ⟨b0, b1, b2, b3, b4, b5, b6, b7, b8, b9, b10, b11⟩ := hQ1
  have na : w.heap.size ≠ w.heap.size + 1 := by omega
  refine ⟨?_, ?_, ?_, ?_, hb1.setCell (by simp) _, by simp; omega⟩
  · exact ⟨(far _ na).trans a0, (far _ na).trans a1, (far _ na).trans a2, (far _ na).trans a3, (far _ na).trans a4, (far _ na).trans a5, (far _ na).trans a6, (far _ na).trans a7, (far _ na).trans a8, (far _ na).trans a9, (far _ na).trans a10, (far _ na).trans a11⟩
  · exact ⟨(other _ (by decide)).trans b0, (other _ (by decide)).trans b1, (other _ (by decide)).trans b2, (other _ (by decide)).trans b3, (other _ (by decide)).trans b4, (other _ (by decide)).trans b5, (other _ (by decide)).trans b6, (other _ (by decide)).trans b7, (other _ (by decide)).trans b8, (other _ (by decide)).trans b9, hcell10, (other _ (by decide)).trans b11⟩
  · intro j hj
    obtain ⟨lb, lo, d, s, h1, h2, h3, h4, h5, h6, h7, h8, h9⟩ := (hL.below hb1) j hj
    obtain ⟨lb', lo', d', s', h1', h2', _⟩ := hL j hj
    have he := h1.symm.trans h1'
    simp only [Option.some.injEq, Addr.mk.injEq, and_true] at he
    have hne : lb ≠ w.heap.size + 1 := by omega
    exact ⟨lb, lo, d, s, h1, by simpa using h2, h3, h4, h5, h6, h7, (far _ hne).trans h8, (far _ hne).trans h9⟩
  · intro j hj
    obtain ⟨lb, lo, d, s, h1, h2, h3, h4, h5, h6, h7, h8, h9⟩ := hLg j hj
    have he := h1
    simp only [Option.some.injEq, Addr.mk.injEq, and_true] at he
    have hne : lb ≠ w.heap.size + 1 := by omega
    exact ⟨lb, lo, d, s, h1, by simpa using h2, h3, h4, h5, h6, h7, (far _ hne).trans h8, (far _ hne).trans h9⟩

end Go.Proofs.YtakaadcpaeiccabGreat

namespace Go.Proofs.YtakaadcpaeiccabGreat
open Go.RowKit

theorem good_fits {p : Pkt} (h : p.goodB = true) : 1 ≤ p.kind ∧ p.kind ≤ 9 ∧ 0 ≤ p.cnt ∧ p.cnt ≤ 255 ∧ p.ln ≤ 8 := by
  obtain ⟨hl, _, _, h1, h2, h3, hk⟩ := good_parts h
  have hln := (like_parts hl).1
  unfold Pkt.cnt
  rcases hk with hk | hk | hk | ⟨hk, _, _⟩
  · have : p.ownP.ln = 0 := by simp [Pkt.ownP, hk]
    simp [hk]; omega
  · have : p.ownP.ln = 0 := by simp [Pkt.ownP, hk]
    simp [hk]; omega
  · have : p.ownP.ln = 0 := by simp [Pkt.ownP, hk]
    simp [hk]; omega
  · simp [hk]; omega

theorem encB_len {p : Pkt} {L : List (Int × Int)} (h1 : L.length = p.ln) (h2 : p.ln ≤ 8) (h3 : p.pay.size ≤ 16) : (encB p L).length ≤ 65536 := by
  have := numB_len p p.nums.length
  have := lostB_len L L.length
  simp only [encB, List.length_append, Pkt.head, List.length_cons, List.length_nil, strNums_length]
  omega

end Go.Proofs.YtakaadcpaeiccabGreat
