import Derived.Test.YtmahaccaglaldaaW14
import Derived.ProofKit
import Derived.OpenShut
import Derived.Deep.Slices
namespace Go.Proofs.Ytmahaccaglaldaa
open Go.ChangeShapes Go.WideShapes Go.RowKit Go.Deep

theorem pc26 : Try.prog.cellsOf 26 = 12 := by kernel_rfl
theorem pc3 : Try.prog.cellsOf 3 = 1 := by kernel_rfl
theorem pc22 : Try.prog.cellsOf 22 = 1 := by kernel_rfl
theorem pc4 : Try.prog.cellsOf 4 = 1 := by kernel_rfl
theorem pc23 : Try.prog.cellsOf 23 = 1 := by kernel_rfl
theorem pc24 : Try.prog.cellsOf 24 = 1 := by kernel_rfl
theorem pc9 : Try.prog.cellsOf 9 = 1 := by kernel_rfl
theorem pc49 : Try.prog.cellsOf 49 = 2 := by kernel_rfl

theorem list12 {α : Type} {cs : Array α} (h : cs.size = 12) : ∃ c0 c1 c2 c3 c4 c5 c6 c7 c8 c9 c10 c11, cs = #[c0, c1, c2, c3, c4, c5, c6, c7, c8, c9, c10, c11] := by
  obtain ⟨l⟩ := cs
  match l, h with
  | [c0, c1, c2, c3, c4, c5, c6, c7, c8, c9, c10, c11], _ => exact ⟨c0, c1, c2, c3, c4, c5, c6, c7, c8, c9, c10, c11, rfl⟩

/-- A packet that is read is well formed as far as its numbers go. -/
structure Pkt.Num (p : Pkt) : Prop where
  ttl0 : -9223372036854775808 ≤ p.ttl
  ttl1 : p.ttl ≤ 9223372036854775807
  kind0 : -9223372036854775808 ≤ p.kind
  kind1 : p.kind ≤ 9223372036854775807
  hops0 : -9223372036854775808 ≤ p.hops
  hops1 : p.hops ≤ 9223372036854775807
  id0 : 0 ≤ p.id
  id1 : p.id < 4294967296
  dest0 : 0 ≤ p.dest
  dest1 : p.dest < 4294967296
  dseq0 : 0 ≤ p.dseq
  dseq1 : p.dseq < 4294967296
  frm0 : 0 ≤ p.frm
  frm1 : p.frm < 4294967296
  fseq0 : 0 ≤ p.fseq
  fseq1 : p.fseq < 4294967296
  life0 : 0 ≤ p.life
  life1 : p.life < 4294967296

theorem Pkt.Num.wf {p : Pkt} (h : p.Num) (h1 : p.ln ≤ 65536) (h2 : p.pay.size ≤ 65536) : p.Wf :=
  ⟨h.ttl0, h.ttl1, h.kind0, h.kind1, h.hops0, h.hops1, h.id0, h.id1, h.dest0, h.dest1, h.dseq0, h.dseq1, h.frm0, h.frm1, h.fseq0, h.fseq1, h.life0, h.life1, h1, h2⟩

theorem list_of {α : Type} {R : Nat → α → Prop} : ∀ (n : Nat), (∀ i, i < n → ∃ x, R i x) → ∃ L : List α, L.length = n ∧ ∀ j, j < n → ∃ x, L[j]? = some x ∧ R j x
  | 0, _ => ⟨[], rfl, fun j hj => by omega⟩
  | n + 1, h => by
    obtain ⟨L, hl, hL⟩ := list_of n (fun i hi => h i (by omega))
    obtain ⟨x, hx⟩ := h n (by omega)
    refine ⟨L ++ [x], by simp [hl], fun j hj => ?_⟩
    by_cases hjn : j < n
    · obtain ⟨y, h1, h2⟩ := hL j hjn
      exact ⟨y, by rw [List.getElem?_append_left (by omega)]; exact h1, h2⟩
    · obtain rfl : j = n := by omega
      exact ⟨x, by rw [List.getElem?_append_right (by omega)]; simp [hl], hx⟩

section
variable {H : Type} {enc : TypeId × Value → H}

theorem open_lost {W : World} {fuel : Nat} {c : Value} {x : DataW H × List MemPlace} (h : DataW.trod enc Try.prog W 0 (fun _ => true) true fuel 24 [c] = some x) :
    ∃ ao n cap L, c = .slice ao n cap ∧ L.length = n ∧ HoldsA W ao L := by
  rcases open_slice Try.underlying24 h with ⟨hc, _⟩ | ⟨a, len, cap, m, n, D, Pl, hc, _, hl, _, hm, _, hx⟩
  · simp only [List.cons.injEq, and_true] at hc
    exact ⟨none, 0, 0, [], hc, rfl, fun j hj => absurd hj (by simp)⟩
  · simp only [List.cons.injEq, and_true] at hc
    simp only [if_true] at hm
    have hspot0 : 0 < len → a.spot = none := by
      intro h0
      obtain ⟨cs', h1, _⟩ := hx 0 (by omega)
      rw [pc49] at h1
      obtain ⟨_, hlen, hget⟩ := World.cells?_some h1
      match cs', hlen with
      | [u, v], _ =>
        have q0 := hget 0 (by omega)
        have h := World.cell?_spot q0
        simpa [Addr.add] using h
    have key : ∀ i, i < len → ∃ y : Int × Int, (∃ b off, a = ⟨b, off, none⟩ ∧ b < W.heap.size ∧ 0 ≤ y.1 ∧ y.1 < 4294967296 ∧ 0 ≤ y.2 ∧ y.2 < 4294967296 ∧
        W.cell? ⟨b, off + i * 2, none⟩ = some (.int .u32 y.1) ∧ W.cell? ⟨b, off + i * 2 + 1, none⟩ = some (.int .u32 y.2)) := by
      intro i hi
      obtain ⟨cs', h1, h2⟩ := hx i (by omega)
      rw [pc49] at h1
      obtain ⟨_, hlen, hget⟩ := World.cells?_some h1
      obtain ⟨y0, y1, k, _, _, g0, g1⟩ := trod_struct2 Try.underlying49 h2
      match cs', hlen with
      | [u, v], _ =>
        rw [pc23] at g0 g1
        obtain ⟨d, e0, _, w0⟩ := DataW.trod_int Try.underlying23 g0
        obtain ⟨s, e1, _, w1⟩ := DataW.trod_int Try.underlying23 g1
        simp at e0 e1
        subst e0 e1
        have q0 := hget 0 (by omega)
        have q1 := hget 1 (by omega)
        obtain ⟨b, off, spot⟩ := a
        have hspot : spot = none := hspot0 (by omega)
        subst hspot
        rw [add_plain, add_plain] at q0 q1
        have hb0 := bounds_u32 w0
        have hb1 := bounds_u32 w1
        exact ⟨(d, s), b, off, rfl, World.block_lt_of_cell? W _ q0, hb0.1, by dsimp only; omega, hb1.1, by dsimp only; omega, by simpa using q0, by simpa using q1⟩
    obtain ⟨L, hL, hLx⟩ := list_of len key
    refine ⟨some a, len, cap, L, hc, hL, fun j hj => ?_⟩
    obtain ⟨⟨d, s⟩, h1, b, off, rfl, h2, h3, h4, h5, h6, h7, h8⟩ := hLx j (by omega)
    exact ⟨b, off, d, s, rfl, h2, h1, h3, h4, h5, h6, h7, h8⟩

theorem open_pkt {W : World} {b0 : Nat} {v : Value} {d : DataW H} {ps : List MemPlace} (hv : Value.okWide Try.prog W .any b0 26 v) (h : DataW.Trod enc Try.prog W 0 (fun _ => true) true 26 v d ps) :
    ∃ (p : Pkt) (L : List (Int × Int)), v = p.val ∧ p.Num ∧ HoldsL W p L := by
  obtain ⟨cs, rfl, hsz⟩ := okWide_struct Try.underlying26 hv
  obtain ⟨c0, c1, c2, c3, c4, c5, c6, c7, c8, c9, c10, c11, rfl⟩ := list12 (hsz.trans pc26)
  obtain ⟨fuel, hf⟩ := h
  obtain ⟨xs, n, _, _, _, hlen, hget⟩ := DataW.trod_struct Try.underlying26 hf
  match xs, hlen with
  | [x0, x1, x2, x3, x4, x5, x6, x7, x8, x9, x10, x11], _ =>
    have g0 : DataW.trod enc Try.prog W 0 (fun _ => true) true n 3 (([c0, c1, c2, c3, c4, c5, c6, c7, c8, c9, c10, c11].drop 0).take (Try.prog.cellsOf 3)) = some x0 := hget 0 _ rfl
    rw [pc3] at g0
    have g1 : DataW.trod enc Try.prog W 0 (fun _ => true) true n 22 (([c0, c1, c2, c3, c4, c5, c6, c7, c8, c9, c10, c11].drop 1).take (Try.prog.cellsOf 22)) = some x1 := hget 1 _ rfl
    rw [pc22] at g1
    have g2 : DataW.trod enc Try.prog W 0 (fun _ => true) true n 3 (([c0, c1, c2, c3, c4, c5, c6, c7, c8, c9, c10, c11].drop 2).take (Try.prog.cellsOf 3)) = some x2 := hget 2 _ rfl
    rw [pc3] at g2
    have g3 : DataW.trod enc Try.prog W 0 (fun _ => true) true n 4 (([c0, c1, c2, c3, c4, c5, c6, c7, c8, c9, c10, c11].drop 3).take (Try.prog.cellsOf 4)) = some x3 := hget 3 _ rfl
    rw [pc4] at g3
    have g4 : DataW.trod enc Try.prog W 0 (fun _ => true) true n 23 (([c0, c1, c2, c3, c4, c5, c6, c7, c8, c9, c10, c11].drop 4).take (Try.prog.cellsOf 23)) = some x4 := hget 4 _ rfl
    rw [pc23] at g4
    have g5 : DataW.trod enc Try.prog W 0 (fun _ => true) true n 23 (([c0, c1, c2, c3, c4, c5, c6, c7, c8, c9, c10, c11].drop 5).take (Try.prog.cellsOf 23)) = some x5 := hget 5 _ rfl
    rw [pc23] at g5
    have g6 : DataW.trod enc Try.prog W 0 (fun _ => true) true n 23 (([c0, c1, c2, c3, c4, c5, c6, c7, c8, c9, c10, c11].drop 6).take (Try.prog.cellsOf 23)) = some x6 := hget 6 _ rfl
    rw [pc23] at g6
    have g7 : DataW.trod enc Try.prog W 0 (fun _ => true) true n 23 (([c0, c1, c2, c3, c4, c5, c6, c7, c8, c9, c10, c11].drop 7).take (Try.prog.cellsOf 23)) = some x7 := hget 7 _ rfl
    rw [pc23] at g7
    have g8 : DataW.trod enc Try.prog W 0 (fun _ => true) true n 23 (([c0, c1, c2, c3, c4, c5, c6, c7, c8, c9, c10, c11].drop 8).take (Try.prog.cellsOf 23)) = some x8 := hget 8 _ rfl
    rw [pc23] at g8
    have g9 : DataW.trod enc Try.prog W 0 (fun _ => true) true n 23 (([c0, c1, c2, c3, c4, c5, c6, c7, c8, c9, c10, c11].drop 9).take (Try.prog.cellsOf 23)) = some x9 := hget 9 _ rfl
    rw [pc23] at g9
    have g10 : DataW.trod enc Try.prog W 0 (fun _ => true) true n 24 (([c0, c1, c2, c3, c4, c5, c6, c7, c8, c9, c10, c11].drop 10).take (Try.prog.cellsOf 24)) = some x10 := hget 10 _ rfl
    rw [pc24] at g10
    have g11 : DataW.trod enc Try.prog W 0 (fun _ => true) true n 9 (([c0, c1, c2, c3, c4, c5, c6, c7, c8, c9, c10, c11].drop 11).take (Try.prog.cellsOf 9)) = some x11 := hget 11 _ rfl
    rw [pc9] at g11
    clear hget
    obtain ⟨ttl, e0, _, w0⟩ := DataW.trod_int Try.underlying3 g0
    obtain ⟨kind, e1, _, w1⟩ := DataW.trod_int Try.underlying22 g1
    obtain ⟨hops, e2, _, w2⟩ := DataW.trod_int Try.underlying3 g2
    obtain ⟨unk, e3, _⟩ := DataW.trod_bool Try.underlying4 g3
    obtain ⟨id, e4, _, w4⟩ := DataW.trod_int Try.underlying23 g4
    obtain ⟨dest, e5, _, w5⟩ := DataW.trod_int Try.underlying23 g5
    obtain ⟨dseq, e6, _, w6⟩ := DataW.trod_int Try.underlying23 g6
    obtain ⟨frm, e7, _, w7⟩ := DataW.trod_int Try.underlying23 g7
    obtain ⟨fseq, e8, _, w8⟩ := DataW.trod_int Try.underlying23 g8
    obtain ⟨life, e9, _, w9⟩ := DataW.trod_int Try.underlying23 g9
    obtain ⟨ao, ln, cap, L, e10, hL, hA⟩ := open_lost (c := c10) g10
    obtain ⟨pay, e11, _, _⟩ := DataW.trod_string Try.underlying9 g11
    simp at e0 e1 e2 e3 e4 e5 e6 e7 e8 e9 e11
    subst e0 e1 e2 e3 e4 e5 e6 e7 e8 e9 e10 e11
    have q0 := bounds_i64 w0
    have q1 := bounds_i64 w1
    have q2 := bounds_i64 w2
    have q4 := bounds_u32 w4
    have q5 := bounds_u32 w5
    have q6 := bounds_u32 w6
    have q7 := bounds_u32 w7
    have q8 := bounds_u32 w8
    have q9 := bounds_u32 w9
    exact ⟨⟨ttl, kind, hops, unk, id, dest, dseq, frm, fseq, life, ao, ln, cap, pay⟩, L, rfl,
      ⟨q0.1, q0.2, q1.1, q1.2, q2.1, q2.2, q4.1, by dsimp only; omega, q5.1, by dsimp only; omega, q6.1, by dsimp only; omega, q7.1, by dsimp only; omega, q8.1, by dsimp only; omega, q9.1, by dsimp only; omega⟩, hL, hA⟩
end
end Go.Proofs.Ytmahaccaglaldaa
