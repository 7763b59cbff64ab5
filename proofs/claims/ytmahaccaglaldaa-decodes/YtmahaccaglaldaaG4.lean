import Derived.Test.YtmahaccaglaldaaG6
import Derived.Test.YtmahaccaglaldaaG5
import Derived.Test.YtmahaccaglaldaaG3
import Derived.Test.YtmahaccaglaldaaW16
import Derived.Laws.IdiomStrings
namespace Go.Proofs.Ytmahaccaglaldaa
open Go.RowKit

set_option maxHeartbeats 2000000 in
theorem klost_eq (ao bo : Option Addr) (n c1 c2 : Nat) (L : List (Int × Int)) (w : World) (hn : L.length = n) (hn1 : n ≤ 65536) (ha : HoldsA w ao L) (hb : HoldsA w bo L) :
    Calls Try.prog 12 #[.slice ao n c1, .slice bo n c2] w fun e w' => e = .returned (.bool true) ∧ Below w.heap.size w w' := by
  have hn' : Hid (L.length = n) := hn
  clear hn
  go_enter Try.func12, Try.ntmps12
  go_wp2_with fail
  go_loopw [5] (fun i wr => ∃ k : Nat, k ≤ n ∧ i = .int .i64 k ∧ Below w.heap.size w wr) (fun i _ => n - (intOf i).toNat)
  case atStart => exact ⟨0, Nat.zero_le _, rfl, Below.refl _ _⟩
  case round =>
    obtain ⟨k, hk, rfl, hB⟩ := hrel
    by_cases hlt : k < n
    · have hkL : k < L.length := by rw [hn'.out]; exact hlt
      obtain ⟨lb, lo, d, s, rfl, hlb, hds, _, _, _, _, hcd, hcs⟩ := ha k hkL
      obtain ⟨mb, mo, d', s', rfl, hmb, hds', _, _, _, _, hcd', hcs'⟩ := hb k hkL
      have hx := hds.symm.trans hds'
      simp only [Option.some.injEq, Prod.mk.injEq] at hx
      obtain ⟨rfl, rfl⟩ := hx
      have k1 : wr.cell? ⟨lb, lo + k * 2, none⟩ = some (.int .u32 d) := (hB.cell (p := ⟨lb, lo + k * 2, none⟩) hlb).trans hcd
      have k2 : wr.cell? ⟨lb, lo + k * 2 + 1, none⟩ = some (.int .u32 s) := (hB.cell (p := ⟨lb, lo + k * 2 + 1, none⟩) hlb).trans hcs
      have k3 : wr.cell? ⟨mb, mo + k * 2, none⟩ = some (.int .u32 d) := (hB.cell (p := ⟨mb, mo + k * 2, none⟩) hmb).trans hcd'
      have k4 : wr.cell? ⟨mb, mo + k * 2 + 1, none⟩ = some (.int .u32 s) := (hB.cell (p := ⟨mb, mo + k * 2 + 1, none⟩) hmb).trans hcs'
      clear ha hb hds hds' hcd hcs hcd' hcs' hkL
      go_wp2
      go_quiet (fail)
      go_wp2
      go_roundw
      case rel => exact ⟨k + 1, by omega, by go_num, below_drewN hB _⟩
      case measure => simp [intOf]; omega
    · obtain rfl : k = n := by omega
      clear ha hb hk hlt
      go_wp2
      go_ret
      exact ⟨rfl, hB⟩

theorem Decode_any (v : Value) (xs : List Int) (W : World) (hv : RestV W v xs) :
    Calls Try.prog 9 #[v] W fun e w' => DecodeP xs W e w' := Decode_of packet_any v xs W hv
end Go.Proofs.Ytmahaccaglaldaa

namespace Go.Proofs.Ytmahaccaglaldaa
open Go.RowKit

theorem b4_b {n : Int} (h0 : 0 ≤ n) (h1 : n < 4294967296) : ∀ x ∈ b4 n, 0 ≤ x ∧ x ≤ 255 := by
  intro x hx
  simp only [b4, List.mem_cons, List.not_mem_nil, or_false] at hx
  rcases hx with rfl | rfl | rfl | rfl <;> omega
theorem strNums_b (s : ByteArray) : ∀ x ∈ strNums s, 0 ≤ x ∧ x ≤ 255 := by
  intro x hx
  simp only [strNums, List.mem_map] at hx
  obtain ⟨b, _, rfl⟩ := hx
  have := b.toNat_lt
  omega
theorem nums_b {p : Pkt} (hp : p.Wf) : ∀ x ∈ p.nums, 0 ≤ x.2 ∧ x.2 < 4294967296 := by
  intro x hx
  obtain ⟨_, _, _, _, _, _, h7, h8, h9, h10, h11, h12, h13, h14, h15, h16, h17, h18, _, _⟩ := hp
  unfold Pkt.nums at hx
  split at hx
  · simp only [List.mem_cons, List.not_mem_nil, or_false] at hx
    rcases hx with rfl | rfl | rfl | rfl | rfl <;> exact ⟨by assumption, by assumption⟩
  split at hx
  · simp only [List.mem_cons, List.not_mem_nil, or_false] at hx
    rcases hx with rfl | rfl | rfl | rfl <;> exact ⟨by assumption, by assumption⟩
  split at hx
  · simp only [List.mem_cons, List.not_mem_nil, or_false] at hx
    rcases hx with rfl | rfl | rfl <;> exact ⟨by assumption, by assumption⟩
  · simp at hx

theorem encB_b {W : World} {p : Pkt} {L : List (Int × Int)} (hp : p.Wf) (hg : p.goodB = true) (hL : HoldsA W p.la L) : ∀ x ∈ encB p L, 0 ≤ x ∧ x ≤ 255 := by
  have hgp := good_parts hg
  have hgf := good_fits hg
  have hlb : ∀ x ∈ L, (0 ≤ x.1 ∧ x.1 < 4294967296) ∧ 0 ≤ x.2 ∧ x.2 < 4294967296 := by
    intro x hx
    obtain ⟨j, hj, rfl⟩ := List.mem_iff_getElem.1 hx
    obtain ⟨_, _, d, s, _, _, h3, h4, h5, h6, h7, _⟩ := hL j hj
    rw [List.getElem?_eq_getElem hj] at h3
    have e := Option.some.inj h3
    rw [e]
    exact ⟨⟨h4, h5⟩, h6, h7⟩
  intro x hx
  simp only [encB, Pkt.head, Pkt.numB, lostB, List.mem_append, List.mem_cons, List.not_mem_nil, or_false, List.mem_flatMap] at hx
  rcases hx with (((rfl | rfl | rfl | rfl | rfl) | ⟨y, hy, hx⟩) | ⟨y, hy, hx⟩) | hx
  · exact ⟨by omega, by omega⟩
  · exact ⟨by omega, by omega⟩
  · unfold flagB
    split <;> exact ⟨by omega, by omega⟩
  · exact ⟨by omega, by omega⟩
  · exact ⟨by omega, by omega⟩
  · have := nums_b hp y (List.mem_of_mem_take hy)
    exact b4_b this.1 this.2 x hx
  · have := hlb y (List.mem_of_mem_take hy)
    rcases hx with hx | hx
    · exact b4_b this.1.1 this.1.2 x hx
    · exact b4_b this.2.1 this.2.2 x hx
  · exact strNums_b _ x hx

theorem rest_row {W : World} {base : Nat} {v : Value} {xs : List Int} (h : W.ownsRow base 5 1 v xs.length (U xs)) (hb : ∀ x ∈ xs, 0 ≤ x ∧ x ≤ 255) : RestV W v xs := by
  refine ⟨hb, ?_⟩
  rcases id h.2 with ⟨rfl, h0⟩ | ⟨g, cap, cur, rfl, _, _, h1, h2, _⟩
  · exact .inl ⟨rfl, List.eq_nil_of_length_eq_zero h0⟩
  · refine .inr ⟨g, 0, cap, rfl, h1, by unfold maxLen at h2; omega, fun j x hx => ?_⟩
    have hj : j < xs.length := by
      rcases Nat.lt_or_ge j xs.length with h | h
      · exact h
      · rw [List.getElem?_eq_none h] at hx; cases hx
    rw [Nat.zero_add, h.cellAt j (by omega)]
    simp [U, hx]

theorem rest_cut {W : World} {g n c : Nat} {xs : List Int} (h : RestV W (.slice (some ⟨g, 0, none⟩) xs.length c) xs) (hn : n ≤ xs.length) : RestV W (.slice (some ⟨g, 0, none⟩) n c) (xs.take n) := by
  rcases h.2 with ⟨h, _⟩ | ⟨b, o, c', he, h1, h2, h3⟩
  · cases h
  · cases he
    exact (RestV.part h.1 h1 h2 h3 n hn).1

theorem rest_new (s : ByteArray) (hs : s.size ≤ 65536) (w : World) (fz : Nat × Nat) : RestV (w.drew.alloc (.cells (bytesRow s (grownCap w s.size 0 5)) 5 fz)) (.slice (some ⟨w.heap.size, 0, none⟩) s.size (grownCap w s.size 0 5)) (strNums s) := by
  refine ⟨strNums_b s, .inr ⟨w.heap.size, 0, _, by rw [strNums_length], by rw [strNums_length]; exact grownCap_ge _ _ _ _, ?_, fun j x hx => ?_⟩⟩
  · exact grownCap_le_maxLen w s.size 0 _ (by unfold maxLen; omega)
  · have hj : j < s.size := by
      rcases Nat.lt_or_ge j s.size with h | h
      · exact h
      · rw [List.getElem?_eq_none (by rw [strNums_length]; exact h)] at hx; cases hx
    have hh := heap_alloc_new w.drew (.cells (bytesRow s (grownCap w s.size 0 5)) 5 fz)
    rw [Nat.zero_add]
    refine (cell_of_row _ _ j _ _ _ hh).trans ?_
    unfold bytesRow
    rw [Array.getElem?_append_left (by simpa using hj)]
    simp only [strNums, List.getElem?_map] at hx
    simp only [Array.getElem?_map]
    cases hq : s.data[j]? with
    | none => simp [hq] at hx
    | some b =>
      simp [hq] at hx
      subst hx
      rfl

theorem src_rest {W : World} {v : Value} {xs : List Int} (h : RestV W v xs) : Src Try.prog 1 27 v xs.length (U xs) W := by
  rcases h.2 with ⟨rfl, rfl⟩ | ⟨b, o, c, rfl, _, _, h3⟩
  · exact Src.ofNil W Try.underlying27 0
  · refine Src.ofSlice W Try.underlying27 _ _ c _ (by simp [U]) ?_ ?_
    · intro j u hj
      simp only [U, List.getElem?_map] at hj
      cases hx : xs[j]? with
      | none => simp [hx] at hj
      | some x =>
        simp [hx] at hj
        subst hj
        have h := h3 j x hx
        cases j with
        | zero => exact h
        | succ j => exact h
    · intro u hu
      simp only [U, List.mem_map] at hu
      obtain ⟨x, _, rfl⟩ := hu
      rfl

theorem Reads.fwd {p : Pkt} {L : List (Int × Int)} {v : Value} {W : World} {N : Nat} (hg : p.goodB = true) (hl : L.length = p.ln) (h : Reads (encB p L) v W N) :
    ∃ ao c, v = ({ p with la := ao, lc := c } : Pkt).val ∧ HoldsA W ao L ∧ ∀ b, ao = some b → N ≤ b.block := by
  obtain ⟨x0, x1, x2, x3, x4, r, ao, c, hx, hv, _, hA, hf⟩ := h
  rw [encB_cons] at hx
  simp only [List.cons.injEq] at hx
  obtain ⟨rfl, rfl, rfl, rfl, rfl, rfl⟩ := hx
  obtain ⟨_, h2, h3⟩ := dec_enc p hg L hl
  rw [h2] at hv
  rw [h3] at hA
  exact ⟨ao, c, hv, hA, hf⟩

theorem pkOf_wf {x0 x1 x2 x4 : Int} {r : List Int} (hb : ∀ x ∈ r, 0 ≤ x ∧ x ≤ 255) (h0 : 0 ≤ x0 ∧ x0 ≤ 255) (h1 : 0 ≤ x1 ∧ x1 ≤ 255) (h4 : 0 ≤ x4 ∧ x4 ≤ 255) : (pkOf x0 x1 x2 x4 r).Wf := by
  have hn := fun i => num_b hb i
  have q0 := hn 0
  have q1 := hn 1
  have q2 := hn 2
  have q3 := hn 3
  have q4 := hn 4
  have hz : (⟨#[]⟩ : ByteArray).size = 0 := rfl
  unfold pkOf
  split
  · constructor <;> (dsimp only; omega)
  split
  · constructor <;> (dsimp only; omega)
  split
  · constructor <;> (dsimp only; omega)
  split
  · have : (strOfNums ((r.drop 12).take x4.toNat)).size ≤ 255 := by
      rw [strOfNums_size, List.length_take]; omega
    constructor <;> (dsimp only; omega)
  · constructor <;> (dsimp only; omega)

theorem Reads.back {xs : List Int} {v : Value} {W : World} {N : Nat} (hb : ∀ x ∈ xs, 0 ≤ x ∧ x ≤ 255) (hF : isF xs = true) (h : Reads xs v W N) :
    ∃ (q : Pkt) (L : List (Int × Int)), v = q.val ∧ q.Wf ∧ q.goodB = true ∧ HoldsL W q L ∧ encB q L = xs ∧ (∀ b, q.la = some b → N ≤ b.block) := by
  obtain ⟨x0, x1, x2, x3, x4, r, ao, c, rfl, hv, hl, hA, hf⟩ := h
  have hw : (pkOf x0 x1 x2 x4 r).Wf := pkOf_wf (fun x hx => hb x (by simp [hx])) (hb x0 (by simp)) (hb x1 (by simp)) (hb x4 (by simp))
  have hgood : (pkOf x0 x1 x2 x4 r).goodB = true := by
    simp only [isF, Bool.and_eq_true] at hF
    exact hF.2
  refine ⟨{ pkOf x0 x1 x2 x4 r with la := ao, lc := c }, lsOf x1 x4 r, hv, ⟨hw.ttl0, hw.ttl1, hw.kind0, hw.kind1, hw.hops0, hw.hops1, hw.id0, hw.id1, hw.dest0, hw.dest1, hw.dseq0, hw.dseq1, hw.frm0, hw.frm1, hw.fseq0, hw.fseq1, hw.life0, hw.life1, hw.ln1, hw.pay1⟩, (goodB_la _ _ _).trans hgood, ⟨hl, hA⟩, ?_, hf⟩
  rw [cnt_flag, enc_pkOf hb hF]
end Go.Proofs.Ytmahaccaglaldaa
