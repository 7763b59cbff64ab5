import Derived.Test.YtmahaccaglaldaaG7
namespace Go.Proofs.Ytmahaccaglaldaa
open Go.RowKit

set_option maxRecDepth 100000 in
set_option maxHeartbeats 4000000 in
theorem refD_2 (s : ByteArray) (x0 x2 x3 x4 : Int) (r : List Int) (hx : strNums s = x0 :: 2 :: x2 :: x3 :: x4 :: r) (hr : r.length = 16) (w : World) :
    Calls Try.prog 10 #[.string s] w fun e w' => DecodeP (strNums s) w e w' := by
  have hl : (strNums s).length = s.size := strNums_length s
  have hby := strNums_b s
  rw [hx] at hl hby
  simp only [List.length_cons] at hl
  have hs : s.size = 21 := by omega
  have p0 := hby x0 (by simp)
  have p4 := hby x4 (by simp)
  have pr : ∀ x ∈ r, 0 ≤ x ∧ x ≤ 255 := fun x h => hby x (by simp [h])
  have g0 : 0 < s.size := by omega
  have g1 : 1 < s.size := by omega
  have g2 : 2 < s.size := by omega
  have g4 : 4 < s.size := by omega
  have h0 : (s[0].toNat : Int) = x0 := by rw [← strNums_at s 0 g0, hx]; rfl
  have h1 : (s[1].toNat : Int) = 2 := by rw [← strNums_at s 1 g1, hx]; rfl
  have h2 : (s[2].toNat : Int) = x2 := by rw [← strNums_at s 2 g2, hx]; rfl
  have h4 : (s[4].toNat : Int) = x4 := by rw [← strNums_at s 4 g4, hx]; rfl
  have i0 : (0 : Int) < (s.size : Int) := by omega
  have i1 : (1 : Int) < (s.size : Int) := by omega
  have i2 : (2 : Int) < (s.size : Int) := by omega
  have i4 : (4 : Int) < (s.size : Int) := by omega
  have w0 : wrap64 x0 = x0 := by unfold wrap64; omega
  have w4 : wrap64 x4 = x4 := by unfold wrap64; omega
  have d0 : decide ((s.size : Int) < 5) = false := decide_eq_false (by omega)
  have ht : Hid (strNums (s.extract 5 21) = r) := strNums_tail hx (by omega)
  have htz : (s.extract 5 21).size = 16 := by rw [ByteArray.size_extract]; omega
  have hxx := (show Hid _ from hx)
  have hll := (show Hid _ from hl)
  have hrr := (show Hid _ from hr)
  clear hx hl hr hby
  go_enter Try.func10, Try.ntmps10
  go_wp2_with fail
  go_region
  go_wp2_with fail
  clear h0 h1 h2 h4 g0 g1 g2 g4 i0 i1 i2 i4 w0 w4 d0
  have hI0 := RI.start ⟨x0, 2, x4, false, 0, 0, 0, 0, 0, 0, none, 0, 0, ⟨#[]⟩⟩ w
  dsimp only [Pkt.box, Pkt.zero] at hI0
  generalize World.drew _ = W0 at hI0 ⊢
  generalize s.extract 5 21 = t at ht htz ⊢
  refine (refnum_any (t) (by omega) _).mono ?_
  rintro e V0 ⟨rfl, hb⟩
  have hJ0 := hI0.step hb
  obtain ⟨b0, b1, b2, b3, b4, b5, b6, b7, b8, b9, b10, b11⟩ := hJ0.b.cell
  dsimp only at b0 b1 b2 b3 b4 b5 b6 b7 b8 b9 b10 b11
  have bf := hJ0.b.free
  have hI1 := hJ0.set ⟨x0, 2, x4, false, 0, n4s t, 0, 0, 0, 0, none, 0, 0, ⟨#[]⟩⟩ 5 (.int .u32 (n4s t)) rfl
  clear hI0 hb
  go_wp2_with fail
  clear b0 b1 b2 b3 b4 b5 b6 b7 b8 b9 b10 b11 bf hJ0
  generalize World.setCell _ _ _ = W1 at hI1 ⊢
  refine (refnum_any (t.extract 4 16) (by rw [ByteArray.size_extract]; omega) _).mono ?_
  rintro e V1 ⟨rfl, hb⟩
  have hJ1 := hI1.step hb
  obtain ⟨b0, b1, b2, b3, b4, b5, b6, b7, b8, b9, b10, b11⟩ := hJ1.b.cell
  dsimp only at b0 b1 b2 b3 b4 b5 b6 b7 b8 b9 b10 b11
  have bf := hJ1.b.free
  have hI2 := hJ1.set ⟨x0, 2, x4, false, 0, n4s t, n4s (t.extract 4 16), 0, 0, 0, none, 0, 0, ⟨#[]⟩⟩ 6 (.int .u32 (n4s (t.extract 4 16))) rfl
  clear hI1 hb
  go_wp2_with fail
  clear b0 b1 b2 b3 b4 b5 b6 b7 b8 b9 b10 b11 bf hJ1
  generalize World.setCell _ _ _ = W2 at hI2 ⊢
  refine (refnum_any (t.extract 8 16) (by rw [ByteArray.size_extract]; omega) _).mono ?_
  rintro e V2 ⟨rfl, hb⟩
  have hJ2 := hI2.step hb
  obtain ⟨b0, b1, b2, b3, b4, b5, b6, b7, b8, b9, b10, b11⟩ := hJ2.b.cell
  dsimp only at b0 b1 b2 b3 b4 b5 b6 b7 b8 b9 b10 b11
  have bf := hJ2.b.free
  have hI3 := hJ2.set ⟨x0, 2, x4, false, 0, n4s t, n4s (t.extract 4 16), n4s (t.extract 8 16), 0, 0, none, 0, 0, ⟨#[]⟩⟩ 7 (.int .u32 (n4s (t.extract 8 16))) rfl
  clear hI2 hb
  go_wp2_with fail
  clear b0 b1 b2 b3 b4 b5 b6 b7 b8 b9 b10 b11 bf hJ2
  generalize World.setCell _ _ _ = W3 at hI3 ⊢
  refine (refnum_any (t.extract 12 16) (by rw [ByteArray.size_extract]; omega) _).mono ?_
  rintro e V3 ⟨rfl, hb⟩
  have hJ3 := hI3.step hb
  obtain ⟨b0, b1, b2, b3, b4, b5, b6, b7, b8, b9, b10, b11⟩ := hJ3.b.cell
  dsimp only at b0 b1 b2 b3 b4 b5 b6 b7 b8 b9 b10 b11
  have bf := hJ3.b.free
  have hI4 := hJ3.set ⟨x0, 2, x4, false, 0, n4s t, n4s (t.extract 4 16), n4s (t.extract 8 16), 0, n4s (t.extract 12 16), none, 0, 0, ⟨#[]⟩⟩ 9 (.int .u32 (n4s (t.extract 12 16))) rfl
  clear hI3 hb
  go_wp2_with fail
  clear b0 b1 b2 b3 b4 b5 b6 b7 b8 b9 b10 b11 bf hJ3
  generalize World.setCell _ _ _ = W4 at hI4 ⊢
  have e0 : n4s t = num r 0 := by rw [n4s_all, ht.out]
  have e1 : n4s (t.extract 4 16) = num r 1 := by rw [n4s_extract 1 rfl (by omega), ht.out]
  have e2 : n4s (t.extract 8 16) = num r 2 := by rw [n4s_extract 2 rfl (by omega), ht.out]
  have e3 : n4s (t.extract 12 16) = num r 3 := by rw [n4s_extract 3 rfl (by omega), ht.out]
  rw [e0, e1, e2, e3] at hI4 ⊢
  clear e0 e1 e2 e3
  have hw : Pkt.Wf ⟨x0, 2, x4, false, 0, num r 0, num r 1, num r 2, 0, num r 3, none, 0, 0, ⟨#[]⟩⟩ := pkOf_wf (x1 := 2) (x2 := 0) pr p0 ⟨by omega, by omega⟩ p4
  have hP : isF (strNums s) = true → pkOf x0 2 x2 x4 r = ⟨x0, 2, x4, false, 0, num r 0, num r 1, num r 2, 0, num r 3, none, 0, 0, ⟨#[]⟩⟩ := by
    intro h
    rw [hxx.out] at h
    simp only [isF, Bool.and_eq_true] at h
    have hg := h.2
    have hu : (x2 == 8) = false := (like_parts (good_parts hg).1).2.1
    show (⟨x0, 2, x4, (x2 == 8), 0, num r 0, num r 1, num r 2, 0, num r 3, none, 0, 0, ⟨#[]⟩⟩ : Pkt) = _
    rw [hu]
  have hF : isF (strNums s) = true → Pkt.goodB ⟨x0, 2, x4, false, 0, num r 0, num r 1, num r 2, 0, num r 3, none, 0, 0, ⟨#[]⟩⟩ = true ∧ encB ⟨x0, 2, x4, false, 0, num r 0, num r 1, num r 2, 0, num r 3, none, 0, 0, ⟨#[]⟩⟩ [] = strNums s := by
    intro h
    have hp := hP h
    have hby := strNums_b s
    rw [hxx.out] at h hby ⊢
    have he := enc_pkOf hby h
    simp only [isF, Bool.and_eq_true] at h
    have hg := h.2
    rw [hp] at hg he
    exact ⟨hg, he⟩
  refine (refE_back ⟨x0, 2, x4, false, 0, num r 0, num r 1, num r 2, 0, num r 3, none, 0, 0, ⟨#[]⟩⟩ hw [] _ ⟨rfl, fun j hj => absurd hj (by simp)⟩ s hF).mono ?_
  rintro e V ⟨hb, t', c, rfl, hc⟩
  have hJ := hI4.step hb
  have hO := hJ.out ⟨x0, 2, x4, false, 0, num r 0, num r 1, num r 2, 0, num r 3, none, 0, 0, ⟨#[]⟩⟩
  have hZ := hJ.out Pkt.zero
  obtain ⟨b0, b1, b2, b3, b4, b5, b6, b7, b8, b9, b10, b11⟩ := hJ.b.cell
  obtain ⟨c0, c1, c2, c3, c4, c5, c6, c7, c8, c9, c10, c11⟩ := hJ.z.cell
  dsimp only [Pkt.zero] at b0 b1 b2 b3 b4 b5 b6 b7 b8 b9 b10 b11 c0 c1 c2 c3 c4 c5 c6 c7 c8 c9 c10 c11
  have zf := hJ.z.free
  clear hI4 hb hJ hw hF ht htz pr p0 p4
  rcases hc with ⟨hF1, rfl, rfl⟩ | ⟨hF0, rfl | ⟨rfl, hne⟩⟩
  · go_wp2_with fail
    obtain ⟨hO1, hO2⟩ := hO
    dsimp only [store12] at hO1 hO2
    generalize World.setCell _ _ _ = wF at hO1 hO2 ⊢
    have hpost : DecodeP (strNums t') w (.returned (.tuple #[Pkt.val ⟨x0, 2, x4, false, 0, num r 0, num r 1, num r 2, 0, num r 3, none, 0, 0, ⟨#[]⟩⟩, .int .i64 0])) wF :=
      ⟨hO2, .inl ⟨hF1, _, rfl, x0, 2, x2, x3, x4, r, none, 0, hxx.out, by rw [hP hF1], rfl, fun j hj => absurd hj (Nat.not_lt_zero _), fun b hb => by cases hb⟩⟩
    clear b0 b1 b2 b3 b4 b5 b6 b7 b8 b9 b10 b11 c0 c1 c2 c3 c4 c5 c6 c7 c8 c9 c10 c11 zf hO2 hZ
    obtain ⟨c0, c1, c2, c3, c4, c5, c6, c7, c8, c9, c10, c11⟩ := hO1.cell
    simp [bodyPost, results, Try.results10, go_sem, c0, c1, c2, c3, c4, c5, c6, c7, c8, c9, c10, c11]
    exact hpost
  · go_wp2_with fail
    obtain ⟨hO1, hO2⟩ := hZ
    dsimp only [store12, Pkt.zero] at hO1 hO2
    generalize World.setCell _ _ _ = wF at hO1 hO2 ⊢
    have hpost : DecodeP (strNums s) w (.returned (.tuple #[Pkt.zero.val, .int .i64 1])) wF := ⟨hO2, .inr ⟨hF0, rfl⟩⟩
    clear b0 b1 b2 b3 b4 b5 b6 b7 b8 b9 b10 b11 c0 c1 c2 c3 c4 c5 c6 c7 c8 c9 c10 c11 zf hO2 hO
    obtain ⟨c0, c1, c2, c3, c4, c5, c6, c7, c8, c9, c10, c11⟩ := hO1.cell
    simp [bodyPost, results, Try.results10, go_sem, c0, c1, c2, c3, c4, c5, c6, c7, c8, c9, c10, c11]
    exact hpost
  · go_wp2_with fail
    obtain ⟨hO1, hO2⟩ := hZ
    dsimp only [store12, Pkt.zero] at hO1 hO2
    generalize World.setCell _ _ _ = wF at hO1 hO2 ⊢
    have hpost : DecodeP (strNums s) w (.returned (.tuple #[Pkt.zero.val, .int .i64 1])) wF := ⟨hO2, .inr ⟨hF0, rfl⟩⟩
    clear b0 b1 b2 b3 b4 b5 b6 b7 b8 b9 b10 b11 c0 c1 c2 c3 c4 c5 c6 c7 c8 c9 c10 c11 zf hO2 hO
    obtain ⟨c0, c1, c2, c3, c4, c5, c6, c7, c8, c9, c10, c11⟩ := hO1.cell
    simp [bodyPost, results, Try.results10, go_sem, c0, c1, c2, c3, c4, c5, c6, c7, c8, c9, c10, c11]
    exact hpost
end Go.Proofs.Ytmahaccaglaldaa
