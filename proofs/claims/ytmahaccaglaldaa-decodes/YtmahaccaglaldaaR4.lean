import Derived.Test.YtmahaccaglaldaaR3a
import Derived.Test.YtmahaccaglaldaaR3b
import Derived.Test.YtmahaccaglaldaaR3c
import Derived.Test.YtmahaccaglaldaaR3d
namespace Go.Proofs.Ytmahaccaglaldaa
open Go.RowKit

/-- What the document's own reader answers where there is no frame. -/
def BadP (w : World) (e : Ending) (w' : World) : Prop := Below w.heap.size w w' ∧ e = .returned (.tuple #[Pkt.zero.val, .int .i64 1])

set_option maxRecDepth 100000 in
set_option maxHeartbeats 2000000 in
theorem refD_short (s : ByteArray) (h : s.size < 5) (w : World) :
    Calls Try.prog 10 #[.string s] w fun e w' => BadP w e w' := by
  have d0 : decide ((s.size : Int) < 5) = true := decide_eq_true (by omega)
  have hB := (Below.refl w.heap.size w).alloc (Nat.le_refl _) Pkt.zero.box
  have hZ := PB.new Pkt.zero w
  obtain ⟨c0, c1, c2, c3, c4, c5, c6, c7, c8, c9, c10, c11⟩ := hZ.cell
  dsimp only [Pkt.box, Pkt.zero] at hB c0 c1 c2 c3 c4 c5 c6 c7 c8 c9 c10 c11
  go_enter Try.func10, Try.ntmps10
  go_wp2_with fail
  clear hZ
  generalize World.alloc _ _ = W0 at hB c0 c1 c2 c3 c4 c5 c6 c7 c8 c9 c10 c11 ⊢
  have hpost : BadP w (.returned (.tuple #[Pkt.zero.val, .int .i64 1])) W0 := ⟨hB, rfl⟩
  simp [bodyPost, results, Try.results10, go_sem, c0, c1, c2, c3, c4, c5, c6, c7, c8, c9, c10, c11]
  exact hpost

set_option maxRecDepth 100000 in
set_option maxHeartbeats 4000000 in
theorem refD_bad1 (s : ByteArray) (x0 x2 x3 : Int) (m : Nat) (r : List Int) (hx : strNums s = x0 :: 1 :: x2 :: x3 :: (m : Int) :: r) (hn : r.length ≠ 20) (w : World) :
    Calls Try.prog 10 #[.string s] w fun e w' => BadP w e w' := by
  have hl : (strNums s).length = s.size := strNums_length s
  have hby := strNums_b s
  rw [hx] at hl hby
  simp only [List.length_cons] at hl
  have p0 := hby x0 (by simp)
  have p4 := hby (m : Int) (by simp)
  have p1 := hby 1 (by simp)
  have g0 : 0 < s.size := by omega
  have g1 : 1 < s.size := by omega
  have g4 : 4 < s.size := by omega
  have h0 : (s[0].toNat : Int) = x0 := by rw [← strNums_at s 0 g0, hx]; rfl
  have h1 : (s[1].toNat : Int) = 1 := by rw [← strNums_at s 1 g1, hx]; rfl
  have h4 : (s[4].toNat : Int) = (m : Int) := by rw [← strNums_at s 4 g4, hx]; rfl
  have i0 : (0 : Int) < (s.size : Int) := by omega
  have i1 : (1 : Int) < (s.size : Int) := by omega
  have i4 : (4 : Int) < (s.size : Int) := by omega
  have i5 : (5 : Int) ≤ (s.size : Int) := by omega
  have w0 : wrap64 x0 = x0 := by unfold wrap64; omega
  have w4 : wrap64 (m : Int) = (m : Int) := by unfold wrap64; omega
  have d0 : decide ((s.size : Int) < 5) = false := decide_eq_false (by omega)
  have d9 : (((s.size - 5 : Nat) : Int) == 20) = false := by rw [beq_eq_false_iff_ne]; omega
  clear hn p1
  clear hx hl hby
  go_enter Try.func10, Try.ntmps10
  go_wp2_with fail
  go_region
  have hI0 := RI.start ⟨x0, 1, 0, false, 0, 0, 0, 0, 0, 0, none, 0, 0, ⟨#[]⟩⟩ w
  dsimp only [Pkt.box, Pkt.zero] at hI0
  go_wp2_with fail
  clear h0 h1 h4 g0 g1 g4 i0 i1 i4 i5
  have hB := hI0.bl
  obtain ⟨c0, c1, c2, c3, c4, c5, c6, c7, c8, c9, c10, c11⟩ := hI0.z.cell
  dsimp only [Pkt.zero] at c0 c1 c2 c3 c4 c5 c6 c7 c8 c9 c10 c11
  clear hI0
  generalize World.drew _ = W0 at hB c0 c1 c2 c3 c4 c5 c6 c7 c8 c9 c10 c11 ⊢
  have hpost : BadP w (.returned (.tuple #[Pkt.zero.val, .int .i64 1])) W0 := ⟨hB, rfl⟩
  simp [bodyPost, results, Try.results10, go_sem, c0, c1, c2, c3, c4, c5, c6, c7, c8, c9, c10, c11]
  exact hpost

set_option maxRecDepth 100000 in
set_option maxHeartbeats 4000000 in
theorem refD_bad2 (s : ByteArray) (x0 x2 x3 : Int) (m : Nat) (r : List Int) (hx : strNums s = x0 :: 2 :: x2 :: x3 :: (m : Int) :: r) (hn : r.length ≠ 16) (w : World) :
    Calls Try.prog 10 #[.string s] w fun e w' => BadP w e w' := by
  have hl : (strNums s).length = s.size := strNums_length s
  have hby := strNums_b s
  rw [hx] at hl hby
  simp only [List.length_cons] at hl
  have p0 := hby x0 (by simp)
  have p4 := hby (m : Int) (by simp)
  have p1 := hby 2 (by simp)
  have g0 : 0 < s.size := by omega
  have g1 : 1 < s.size := by omega
  have g4 : 4 < s.size := by omega
  have h0 : (s[0].toNat : Int) = x0 := by rw [← strNums_at s 0 g0, hx]; rfl
  have h1 : (s[1].toNat : Int) = 2 := by rw [← strNums_at s 1 g1, hx]; rfl
  have h4 : (s[4].toNat : Int) = (m : Int) := by rw [← strNums_at s 4 g4, hx]; rfl
  have i0 : (0 : Int) < (s.size : Int) := by omega
  have i1 : (1 : Int) < (s.size : Int) := by omega
  have i4 : (4 : Int) < (s.size : Int) := by omega
  have i5 : (5 : Int) ≤ (s.size : Int) := by omega
  have w0 : wrap64 x0 = x0 := by unfold wrap64; omega
  have w4 : wrap64 (m : Int) = (m : Int) := by unfold wrap64; omega
  have d0 : decide ((s.size : Int) < 5) = false := decide_eq_false (by omega)
  have d9 : (((s.size - 5 : Nat) : Int) == 16) = false := by rw [beq_eq_false_iff_ne]; omega
  clear hn p1
  clear hx hl hby
  go_enter Try.func10, Try.ntmps10
  go_wp2_with fail
  go_region
  have hI0 := RI.start ⟨x0, 2, 0, false, 0, 0, 0, 0, 0, 0, none, 0, 0, ⟨#[]⟩⟩ w
  dsimp only [Pkt.box, Pkt.zero] at hI0
  go_wp2_with fail
  clear h0 h1 h4 g0 g1 g4 i0 i1 i4 i5
  have hB := hI0.bl
  obtain ⟨c0, c1, c2, c3, c4, c5, c6, c7, c8, c9, c10, c11⟩ := hI0.z.cell
  dsimp only [Pkt.zero] at c0 c1 c2 c3 c4 c5 c6 c7 c8 c9 c10 c11
  clear hI0
  generalize World.drew _ = W0 at hB c0 c1 c2 c3 c4 c5 c6 c7 c8 c9 c10 c11 ⊢
  have hpost : BadP w (.returned (.tuple #[Pkt.zero.val, .int .i64 1])) W0 := ⟨hB, rfl⟩
  simp [bodyPost, results, Try.results10, go_sem, c0, c1, c2, c3, c4, c5, c6, c7, c8, c9, c10, c11]
  exact hpost

set_option maxRecDepth 100000 in
set_option maxHeartbeats 4000000 in
theorem refD_bad3 (s : ByteArray) (x0 x2 x3 : Int) (m : Nat) (r : List Int) (hx : strNums s = x0 :: 3 :: x2 :: x3 :: (m : Int) :: r) (hn : r.length ≠ 8 * m) (w : World) :
    Calls Try.prog 10 #[.string s] w fun e w' => BadP w e w' := by
  have hl : (strNums s).length = s.size := strNums_length s
  have hby := strNums_b s
  rw [hx] at hl hby
  simp only [List.length_cons] at hl
  have p0 := hby x0 (by simp)
  have p4 := hby (m : Int) (by simp)
  have p1 := hby 3 (by simp)
  have g0 : 0 < s.size := by omega
  have g1 : 1 < s.size := by omega
  have g4 : 4 < s.size := by omega
  have h0 : (s[0].toNat : Int) = x0 := by rw [← strNums_at s 0 g0, hx]; rfl
  have h1 : (s[1].toNat : Int) = 3 := by rw [← strNums_at s 1 g1, hx]; rfl
  have h4 : (s[4].toNat : Int) = (m : Int) := by rw [← strNums_at s 4 g4, hx]; rfl
  have i0 : (0 : Int) < (s.size : Int) := by omega
  have i1 : (1 : Int) < (s.size : Int) := by omega
  have i4 : (4 : Int) < (s.size : Int) := by omega
  have i5 : (5 : Int) ≤ (s.size : Int) := by omega
  have w0 : wrap64 x0 = x0 := by unfold wrap64; omega
  have w4 : wrap64 (m : Int) = (m : Int) := by unfold wrap64; omega
  have d0 : decide ((s.size : Int) < 5) = false := decide_eq_false (by omega)
  have d9 : (((s.size - 5 : Nat) : Int) == 8 * (m : Int)) = false := by rw [beq_eq_false_iff_ne]; omega
  clear hn p1
  clear hx hl hby
  go_enter Try.func10, Try.ntmps10
  go_wp2_with fail
  go_region
  have hI0 := RI.start ⟨x0, 3, 0, false, 0, 0, 0, 0, 0, 0, none, 0, 0, ⟨#[]⟩⟩ w
  dsimp only [Pkt.box, Pkt.zero] at hI0
  go_wp2_with fail
  clear h0 h1 h4 g0 g1 g4 i0 i1 i4 i5
  have hB := hI0.bl
  obtain ⟨c0, c1, c2, c3, c4, c5, c6, c7, c8, c9, c10, c11⟩ := hI0.z.cell
  dsimp only [Pkt.zero] at c0 c1 c2 c3 c4 c5 c6 c7 c8 c9 c10 c11
  clear hI0
  generalize World.drew _ = W0 at hB c0 c1 c2 c3 c4 c5 c6 c7 c8 c9 c10 c11 ⊢
  have hpost : BadP w (.returned (.tuple #[Pkt.zero.val, .int .i64 1])) W0 := ⟨hB, rfl⟩
  simp [bodyPost, results, Try.results10, go_sem, c0, c1, c2, c3, c4, c5, c6, c7, c8, c9, c10, c11]
  exact hpost

set_option maxRecDepth 100000 in
set_option maxHeartbeats 4000000 in
theorem refD_bad9 (s : ByteArray) (x0 x2 x3 : Int) (m : Nat) (r : List Int) (hx : strNums s = x0 :: 9 :: x2 :: x3 :: (m : Int) :: r) (hn : r.length ≠ 12 + m) (w : World) :
    Calls Try.prog 10 #[.string s] w fun e w' => BadP w e w' := by
  have hl : (strNums s).length = s.size := strNums_length s
  have hby := strNums_b s
  rw [hx] at hl hby
  simp only [List.length_cons] at hl
  have p0 := hby x0 (by simp)
  have p4 := hby (m : Int) (by simp)
  have p1 := hby 9 (by simp)
  have g0 : 0 < s.size := by omega
  have g1 : 1 < s.size := by omega
  have g4 : 4 < s.size := by omega
  have h0 : (s[0].toNat : Int) = x0 := by rw [← strNums_at s 0 g0, hx]; rfl
  have h1 : (s[1].toNat : Int) = 9 := by rw [← strNums_at s 1 g1, hx]; rfl
  have h4 : (s[4].toNat : Int) = (m : Int) := by rw [← strNums_at s 4 g4, hx]; rfl
  have i0 : (0 : Int) < (s.size : Int) := by omega
  have i1 : (1 : Int) < (s.size : Int) := by omega
  have i4 : (4 : Int) < (s.size : Int) := by omega
  have i5 : (5 : Int) ≤ (s.size : Int) := by omega
  have w0 : wrap64 x0 = x0 := by unfold wrap64; omega
  have w4 : wrap64 (m : Int) = (m : Int) := by unfold wrap64; omega
  have d0 : decide ((s.size : Int) < 5) = false := decide_eq_false (by omega)
  have d9 : (((s.size - 5 : Nat) : Int) == 12 + (m : Int)) = false := by rw [beq_eq_false_iff_ne]; omega
  clear hn p1
  clear hx hl hby
  go_enter Try.func10, Try.ntmps10
  go_wp2_with fail
  go_region
  have hI0 := RI.start ⟨x0, 9, 0, false, 0, 0, 0, 0, 0, 0, none, 0, 0, ⟨#[]⟩⟩ w
  dsimp only [Pkt.box, Pkt.zero] at hI0
  go_wp2_with fail
  clear h0 h1 h4 g0 g1 g4 i0 i1 i4 i5
  have hB := hI0.bl
  obtain ⟨c0, c1, c2, c3, c4, c5, c6, c7, c8, c9, c10, c11⟩ := hI0.z.cell
  dsimp only [Pkt.zero] at c0 c1 c2 c3 c4 c5 c6 c7 c8 c9 c10 c11
  clear hI0
  generalize World.drew _ = W0 at hB c0 c1 c2 c3 c4 c5 c6 c7 c8 c9 c10 c11 ⊢
  have hpost : BadP w (.returned (.tuple #[Pkt.zero.val, .int .i64 1])) W0 := ⟨hB, rfl⟩
  simp [bodyPost, results, Try.results10, go_sem, c0, c1, c2, c3, c4, c5, c6, c7, c8, c9, c10, c11]
  exact hpost

set_option maxRecDepth 100000 in
set_option maxHeartbeats 4000000 in
theorem refD_bad0 (s : ByteArray) (x0 x1 x2 x3 : Int) (m : Nat) (r : List Int) (hx : strNums s = x0 :: x1 :: x2 :: x3 :: (m : Int) :: r) (n1 : x1 ≠ 1) (n2 : x1 ≠ 2) (n3 : x1 ≠ 3) (n9 : x1 ≠ 9) (w : World) :
    Calls Try.prog 10 #[.string s] w fun e w' => BadP w e w' := by
  have hl : (strNums s).length = s.size := strNums_length s
  have hby := strNums_b s
  rw [hx] at hl hby
  simp only [List.length_cons] at hl
  have p0 := hby x0 (by simp)
  have p4 := hby (m : Int) (by simp)
  have p1 := hby x1 (by simp)
  have g0 : 0 < s.size := by omega
  have g1 : 1 < s.size := by omega
  have g4 : 4 < s.size := by omega
  have h0 : (s[0].toNat : Int) = x0 := by rw [← strNums_at s 0 g0, hx]; rfl
  have h1 : (s[1].toNat : Int) = x1 := by rw [← strNums_at s 1 g1, hx]; rfl
  have h4 : (s[4].toNat : Int) = (m : Int) := by rw [← strNums_at s 4 g4, hx]; rfl
  have i0 : (0 : Int) < (s.size : Int) := by omega
  have i1 : (1 : Int) < (s.size : Int) := by omega
  have i4 : (4 : Int) < (s.size : Int) := by omega
  have i5 : (5 : Int) ≤ (s.size : Int) := by omega
  have w0 : wrap64 x0 = x0 := by unfold wrap64; omega
  have w4 : wrap64 (m : Int) = (m : Int) := by unfold wrap64; omega
  have d0 : decide ((s.size : Int) < 5) = false := decide_eq_false (by omega)
  have w1 : wrap64 x1 = x1 := by unfold wrap64; omega
  have e1 : (x1 == 1) = false := by simpa using n1
  have e2 : (x1 == 2) = false := by simpa using n2
  have e3 : (x1 == 3) = false := by simpa using n3
  have e9 : (x1 == 9) = false := by simpa using n9
  clear n1 n2 n3 n9 p1
  clear hx hl hby
  go_enter Try.func10, Try.ntmps10
  go_wp2_with fail
  go_region
  have hI0 := RI.start ⟨x0, x1, 0, false, 0, 0, 0, 0, 0, 0, none, 0, 0, ⟨#[]⟩⟩ w
  dsimp only [Pkt.box, Pkt.zero] at hI0
  go_wp2_with fail
  clear h0 h1 h4 g0 g1 g4 i0 i1 i4 i5
  have hB := hI0.bl
  obtain ⟨c0, c1, c2, c3, c4, c5, c6, c7, c8, c9, c10, c11⟩ := hI0.z.cell
  dsimp only [Pkt.zero] at c0 c1 c2 c3 c4 c5 c6 c7 c8 c9 c10 c11
  clear hI0
  generalize World.drew _ = W0 at hB c0 c1 c2 c3 c4 c5 c6 c7 c8 c9 c10 c11 ⊢
  have hpost : BadP w (.returned (.tuple #[Pkt.zero.val, .int .i64 1])) W0 := ⟨hB, rfl⟩
  simp [bodyPost, results, Try.results10, go_sem, c0, c1, c2, c3, c4, c5, c6, c7, c8, c9, c10, c11]
  exact hpost

theorem isF_short {xs : List Int} (h : xs.length < 5) : isF xs = false := by
  match xs, h with
  | [], _ => rfl
  | [_], _ => rfl
  | [_, _], _ => rfl
  | [_, _, _], _ => rfl
  | [_, _, _, _], _ => rfl
  | _ :: _ :: _ :: _ :: _ :: _, h => simp at h; omega
theorem isF_kind {x0 x1 x2 x3 x4 : Int} {r : List Int} (n1 : x1 ≠ 1) (n2 : x1 ≠ 2) (n3 : x1 ≠ 3) (n9 : x1 ≠ 9) : isF (x0 :: x1 :: x2 :: x3 :: x4 :: r) = false := by
  cases hF : isF (x0 :: x1 :: x2 :: x3 :: x4 :: r)
  · rfl
  · simp only [isF, Bool.and_eq_true] at hF
    have hg := hF.2
    have hk := (good_parts hg).2.2.2.2.2.2
    have hkk : (pkOf x0 x1 x2 x4 r).kind = x1 := by simp [pkOf, n1, n2, n3, n9]
    rw [hkk] at hk
    omega
theorem DecodeP.bad {xs : List Int} {w w' : World} {e : Ending} (hF : isF xs = false) (h : BadP w e w') : DecodeP xs w e w' := ⟨h.1, .inr ⟨hF, h.2⟩⟩

/-- The document's own reader, whatever the bytes. -/
theorem refD_any (s : ByteArray) (w : World) : Calls Try.prog 10 #[.string s] w fun e w' => DecodeP (strNums s) w e w' := by
  have hl : (strNums s).length = s.size := strNums_length s
  have hby := strNums_b s
  by_cases h5 : s.size < 5
  · exact (refD_short s h5 w).mono fun e w' h => DecodeP.bad (isF_short (by omega)) h
  obtain ⟨x0, x1, x2, x3, x4, r, hx⟩ : ∃ x0 x1 x2 x3 x4 r, strNums s = x0 :: x1 :: x2 :: x3 :: x4 :: r := by
    match hq : strNums s with
    | [] => rw [hq] at hl; simp at hl; omega
    | [_] => rw [hq] at hl; simp at hl; omega
    | [_, _] => rw [hq] at hl; simp at hl; omega
    | [_, _, _] => rw [hq] at hl; simp at hl; omega
    | [_, _, _, _] => rw [hq] at hl; simp at hl; omega
    | a :: b :: c :: d :: e :: r => exact ⟨a, b, c, d, e, r, rfl⟩
  have p4 := hby x4 (by simp [hx])
  obtain ⟨m, rfl⟩ := Int.eq_ofNat_of_zero_le p4.1
  have hm : (m : Int).toNat = m := Int.toNat_natCast m
  by_cases k1 : x1 = 1
  · subst k1
    by_cases hr : r.length = 20
    · exact refD_1 s x0 x2 x3 m r hx hr w
    · exact (refD_bad1 s x0 x2 x3 m r hx hr w).mono fun e w' h => DecodeP.bad (by rw [hx]; exact isF_len (by simpa [needOf] using hr)) h
  by_cases k2 : x1 = 2
  · subst k2
    by_cases hr : r.length = 16
    · exact refD_2 s x0 x2 x3 m r hx hr w
    · exact (refD_bad2 s x0 x2 x3 m r hx hr w).mono fun e w' h => DecodeP.bad (by rw [hx]; exact isF_len (by simpa [needOf] using hr)) h
  by_cases k3 : x1 = 3
  · subst k3
    by_cases hr : r.length = 8 * m
    · exact refD_3 s x0 x2 x3 m r hx hr w
    · exact (refD_bad3 s x0 x2 x3 m r hx hr w).mono fun e w' h => DecodeP.bad (by rw [hx]; exact isF_len (by simpa [needOf] using hr)) h
  by_cases k9 : x1 = 9
  · subst k9
    by_cases hr : r.length = 12 + m
    · exact refD_9 s x0 x2 x3 m r hx hr w
    · exact (refD_bad9 s x0 x2 x3 m r hx hr w).mono fun e w' h => DecodeP.bad (by rw [hx]; exact isF_len (by simpa [needOf] using hr)) h
  exact (refD_bad0 s x0 x1 x2 x3 m r hx k1 k2 k3 k9 w).mono fun e w' h => DecodeP.bad (by rw [hx]; exact isF_kind k1 k2 k3 k9) h

end Go.Proofs.Ytmahaccaglaldaa
