import Derived.Test.YtmahaccaglaldaaG7
namespace Go.Proofs.Ytmahaccaglaldaa
open Go.RowKit

theorem row_pos {W : World} {base e size : Nat} {v : Value} {n : Nat} {xs : List Value} (h : W.ownsRow base e size v (n + 1) xs) :
    ∃ g cap, v = .slice (some ⟨g, 0, none⟩) (n + 1) cap := by
  rcases h.2 with ⟨_, h0⟩ | ⟨g, cap, cur, rfl, _⟩
  · cases h0
  · exact ⟨g, cap, rfl⟩

theorem LI.holds {x0 : Int} {la : Option Addr} {k lc : Nat} {L : List (Int × Int)} {w W : World} (h : LI x0 la k lc L w W) (hb : ∀ x ∈ L, 0 ≤ x.1 ∧ x.1 < 4294967296 ∧ 0 ≤ x.2 ∧ x.2 < 4294967296) :
    HoldsA W la L ∧ ∀ b, la = some b → w.heap.size + 2 ≤ b.block := by
  have hr := h.row
  rcases id hr.2 with ⟨he, h0⟩ | ⟨g, cap, cur, he, hg, _⟩
  · cases he
    have hl : L = [] := by
      have := hr.1
      cases L with
      | nil => rfl
      | cons a t => simp [LC] at this
    subst hl
    exact ⟨fun j hj => absurd hj (Nat.not_lt_zero _), fun b hb => by cases hb⟩
  · cases he
    exact ⟨HoldsA.ofOwn hr hb, fun b hb => by cases hb; exact hg⟩

set_option maxRecDepth 100000 in
set_option maxHeartbeats 4000000 in
theorem refD_3 (s : ByteArray) (x0 x2 x3 : Int) (m : Nat) (r : List Int) (hx : strNums s = x0 :: 3 :: x2 :: x3 :: (m : Int) :: r) (hr : r.length = 8 * m) (w : World) :
    Calls Try.prog 10 #[.string s] w fun e w' => DecodeP (strNums s) w e w' := by
  have hl : (strNums s).length = s.size := strNums_length s
  have hby := strNums_b s
  rw [hx] at hl hby
  simp only [List.length_cons] at hl
  have hs : Hid (s.size = 5 + 8 * m) := by show s.size = 5 + 8 * m; omega
  have p0 := hby x0 (by simp)
  have p4 := hby (m : Int) (by simp)
  have pr : ∀ x ∈ r, 0 ≤ x ∧ x ≤ 255 := fun x h => hby x (by simp [h])
  have g0 : 0 < s.size := by omega
  have g1 : 1 < s.size := by omega
  have g4 : 4 < s.size := by omega
  have h0 : (s[0].toNat : Int) = x0 := by rw [← strNums_at s 0 g0, hx]; rfl
  have h1 : (s[1].toNat : Int) = 3 := by rw [← strNums_at s 1 g1, hx]; rfl
  have h4 : (s[4].toNat : Int) = (m : Int) := by rw [← strNums_at s 4 g4, hx]; rfl
  have i0 : (0 : Int) < (s.size : Int) := by omega
  have i1 : (1 : Int) < (s.size : Int) := by omega
  have i4 : (4 : Int) < (s.size : Int) := by omega
  have i5 : (5 : Int) ≤ (s.size : Int) := by omega
  have w0 : wrap64 x0 = x0 := by unfold wrap64; omega
  have w4 : wrap64 (m : Int) = (m : Int) := by unfold wrap64; omega
  have d0 : decide ((s.size : Int) < 5) = false := decide_eq_false (by omega)
  have d9 : (((s.size - 5 : Nat) : Int) == 8 * (m : Int)) = true := by rw [beq_iff_eq]; omega
  have ht : Hid (strNums (s.extract 5 s.size) = r) := strNums_tail hx (by omega)
  have htz : Hid ((s.extract 5 s.size).size = 8 * m) := by
    show (s.extract 5 s.size).size = 8 * m
    rw [ByteArray.size_extract, hs.out]; omega
  have hxx := (show Hid _ from hx)
  have hll := (show Hid _ from hl)
  have hrr := (show Hid _ from hr)
  clear hx hl hr hby
  go_enter Try.func10, Try.ntmps10
  go_wp2_with fail
  go_region
  go_wp2_with fail
  clear h0 h1 h4 g0 g1 g4 i0 i1 i4 i5 w0 w4 d0 d9
  have hI0 := RI.start ⟨x0, 3, 0, false, 0, 0, 0, 0, 0, 0, none, 0, 0, ⟨#[]⟩⟩ w
  dsimp only [Pkt.box, Pkt.zero] at hI0
  generalize World.drew _ = W0 at hI0 ⊢
  generalize s.extract 5 s.size = t at ht htz ⊢
  have hLI : ∃ (k : Nat) (la : Option Addr) (lc : Nat), k ≤ m ∧ (Value.int .i64 0) = .int .i64 (k : Int) ∧ LI x0 la k lc (plOf k r) w W0 := ⟨0, none, 0, Nat.zero_le _, rfl, hI0, World.ownsRow_nil W0 _ _ _⟩
  have hm : m ≤ 255 := by omega
  clear hI0 p4
  obtain ⟨i0, hi, hz0, hz1, hz2⟩ := info_parts info_lost
  go_loopw [7] (fun i wr => ∃ (k : Nat) (la : Option Addr) (lc : Nat), k ≤ m ∧ i = .int .i64 (k : Int) ∧ LI x0 la k lc (plOf k r) w wr) (fun i _ => m - (intOf i).toNat)
  case atStart => exact hLI
  case round =>
    clear hLI
    obtain ⟨k, la, lc, hk, rfl, hL⟩ := hrel
    by_cases hlt : k < m
    · have hLd := hL.drew
      obtain ⟨hc, hf⟩ := hLd.cell
      clear hL
      have w8 : wrap64 (8 * (k : Int)) = 8 * (k : Int) := by unfold wrap64; omega
      have w84 : wrap64 (8 * (k : Int) + 4) = 8 * (k : Int) + 4 := by unfold wrap64; omega
      have v8 : IntKind.i64.wrap (8 * (k : Int)) = 8 * (k : Int) := by rw [IntKind.wrap_i64]; omega
      have v84 : IntKind.i64.wrap (8 * (k : Int) + 4) = 8 * (k : Int) + 4 := by rw [IntKind.wrap_i64]; omega
      have n8 : (0 : Int) ≤ 8 * (k : Int) := by omega
      have n84 : (0 : Int) ≤ 8 * (k : Int) + 4 := by omega
      have j8 : 8 * (k : Int) ≤ (t.size : Int) := by rw [htz.out]; omega
      have j84 : 8 * (k : Int) + 4 ≤ (t.size : Int) := by rw [htz.out]; omega
      have hkm : decide ((k : Int) < (m : Int)) = true := decide_eq_true (by omega)
      have hsn : plOf k r ++ [(n4s (t.extract (8 * (k : Int)).toNat t.size), n4s (t.extract (8 * (k : Int) + 4).toNat t.size))] = plOf (k + 1) r := by
        rw [n4s_extract (2 * k) (by omega) (Nat.le_refl _), n4s_extract (2 * k + 1) (by omega) (Nat.le_refl _), ht.out]
        exact (plOf_succ k r).symm
      have hsn := (show Hid _ from hsn)
      go_wp2_with fail
      have hz8 : Hid (4 ≤ (t.extract (8 * (k : Int)).toNat t.size).size) := by
        show 4 ≤ (t.extract (8 * (k : Int)).toNat t.size).size
        rw [ByteArray.size_extract, htz.out]; omega
      have hz84 : Hid (4 ≤ (t.extract (8 * (k : Int) + 4).toNat t.size).size) := by
        show 4 ≤ (t.extract (8 * (k : Int) + 4).toNat t.size).size
        rw [ByteArray.size_extract, htz.out]; omega
      have hk1 : Hid (k + 1 ≤ maxLen) := by show k + 1 ≤ maxLen; unfold maxLen; omega
      have hk2 : Hid ((k + 1) * 8 ≤ 140737488355328) := by show (k + 1) * 8 ≤ 140737488355328; omega
      go_region_law (first
        | (go_simp; go_at_call 24; refine (refnum_any _ (by with_reducible first | exact hz8.out | exact hz84.out) _).mono ?_; rintro e w5 ⟨rfl, hb5⟩; have hL5 := LI.step (by assumption) hb5; clear hb5; have hc5 := hL5.cell.1; have hf5 := hL5.cell.2; have ha5 := fun o => (LI.alloc hL5 o).cell.1)
        | (refine step_append_own rfl (.tmp 104) (.tmp 117) 24 rfl (w.heap.size + 2) 49 i0 (.agg #[.int .u32 0, .int .u32 0]) 2 8 Try.underlying24 hi hz0 hz1 hz2 rfl (by decide) (.slice la k lc) k (LC (plOf k r)) (by simp [Act.eval]) (LI.alloc (by assumption) _).row ⟨_, 0, none⟩ 1 1 [.int .u32 (n4s (t.extract (8 * (k : Int)).toNat t.size)), .int .u32 (n4s (t.extract (8 * (k : Int) + 4).toNat t.size))] (by simp [Act.eval]) rfl (cells2_new _ _ _) (one2 _ _) hk1.out hk2.out (LI.alloc (by assumption) _).base ?_; intro v7 w7 ho7 hg7; obtain ⟨g7, c7, rfl⟩ := row_pos ho7; have hR7 := LI.grown (LI.alloc (by assumption) _) hg7; have hc7 := hR7.b.cell.2.2.2.2.2.2.2.2.2.2.1; have hf7 := hR7.b.free 10))
      all_goals
        have hN := LI.next hR7 ho7
        rw [hsn.out] at hN
        clear hc7 hf7 hR7 ho7 hg7 hc5 hf5 ha5
        clear hL5
        generalize World.setCell _ _ _ = w8 at hN ⊢
        go_wp2_with fail
        go_roundw
        case rel => exact ⟨k + 1, _, _, by omega, by go_num, hN⟩
        case measure => simp [intOf]; omega
    · obtain rfl : k = m := by omega
      have hkm : decide ((k : Int) < (k : Int)) = false := decide_eq_false (by omega)
      have hLm := hL
      obtain ⟨hA, hfr⟩ := hLm.holds (plOf_b pr k)
      have hlen : (plOf k r).length = k := by simp [plOf]
      obtain ⟨b0, b1, b2, b3, b4, b5, b6, b7, b8, b9, b10, b11⟩ := hLm.ri.b.cell
      dsimp only at b0 b1 b2 b3 b4 b5 b6 b7 b8 b9 b10 b11
      clear hL hi hz0 hz1 hz2
      go_wp2_with fail
      clear b0 b1 b2 b3 b4 b5 b6 b7 b8 b9 b10 b11
      have hw : Pkt.Wf ⟨x0, 3, 0, false, 0, 0, 0, 0, 0, 0, la, k, lc, ⟨#[]⟩⟩ := by
        have hz : (⟨#[]⟩ : ByteArray).size = 0 := rfl
        constructor <;> (dsimp only; omega)
      have hP : isF (strNums s) = true → ({ pkOf x0 3 x2 (k : Int) r with la := la, lc := lc } : Pkt) = ⟨x0, 3, 0, false, 0, 0, 0, 0, 0, 0, la, k, lc, ⟨#[]⟩⟩ := by
        intro h
        rw [hxx.out] at h
        simp only [isF, Bool.and_eq_true] at h
        have hg := h.2
        have hu : (x2 == 8) = false := (like_parts (good_parts hg).1).2.1
        show (⟨x0, 3, 0, (x2 == 8), 0, 0, 0, 0, 0, 0, la, (k : Int).toNat, lc, ⟨#[]⟩⟩ : Pkt) = _
        rw [hu, Int.toNat_natCast]
      have hF : isF (strNums s) = true → Pkt.goodB ⟨x0, 3, 0, false, 0, 0, 0, 0, 0, 0, la, k, lc, ⟨#[]⟩⟩ = true ∧ encB ⟨x0, 3, 0, false, 0, 0, 0, 0, 0, 0, la, k, lc, ⟨#[]⟩⟩ (plOf k r) = strNums s := by
        intro h
        have hp := hP h
        have hby := strNums_b s
        rw [hxx.out] at h hby ⊢
        have he := enc_pkOf hby h
        simp only [isF, Bool.and_eq_true] at h
        have hg := h.2
        rw [← hp]
        exact ⟨(goodB_la _ _ _).trans hg, (cnt_flag _ _ _ _).trans he⟩
      refine (refE_back ⟨x0, 3, 0, false, 0, 0, 0, 0, 0, 0, la, k, lc, ⟨#[]⟩⟩ hw (plOf k r) _ ⟨hlen, hA⟩ s hF).mono ?_
      rintro e V ⟨hb, t', c, rfl, hc⟩
      have hJ := hLm.ri.step hb
      have hA' := hA.below hb
      have hO := hJ.out ⟨x0, 3, 0, false, 0, 0, 0, 0, 0, 0, la, k, lc, ⟨#[]⟩⟩
      have hA'' := storeO_holds hA' hfr (show w.heap.size < w.heap.size + 2 by omega) ⟨x0, 3, 0, false, 0, 0, 0, 0, 0, 0, la, k, lc, ⟨#[]⟩⟩
      have hZ := hJ.out Pkt.zero
      obtain ⟨b0, b1, b2, b3, b4, b5, b6, b7, b8, b9, b10, b11⟩ := hJ.b.cell
      obtain ⟨c0, c1, c2, c3, c4, c5, c6, c7, c8, c9, c10, c11⟩ := hJ.z.cell
      dsimp only [Pkt.zero] at b0 b1 b2 b3 b4 b5 b6 b7 b8 b9 b10 b11 c0 c1 c2 c3 c4 c5 c6 c7 c8 c9 c10 c11
      have zf := hJ.z.free
      clear hLm hb hJ hw hF ht htz pr p0 hA hA' hlen
      rcases hc with ⟨hF1, rfl, rfl⟩ | ⟨hF0, rfl | ⟨rfl, hne⟩⟩
      · go_wp2_with fail
        obtain ⟨hO1, hO2⟩ := hO
        dsimp only [store12] at hO1 hO2 hA''
        generalize World.setCell _ _ _ = wF at hO1 hO2 hA'' ⊢
        have hpost : DecodeP (strNums t') w (.returned (.tuple #[Pkt.val ⟨x0, 3, 0, false, 0, 0, 0, 0, 0, 0, la, k, lc, ⟨#[]⟩⟩, .int .i64 0])) wF :=
          ⟨hO2, .inl ⟨hF1, _, rfl, x0, 3, x2, x3, (k : Int), r, la, lc, hxx.out, by rw [hP hF1], by simp [lsOf, plOf, pkOf], hA'', fun b hb => Nat.le_trans (by omega) (hfr b hb)⟩⟩
        clear b0 b1 b2 b3 b4 b5 b6 b7 b8 b9 b10 b11 c0 c1 c2 c3 c4 c5 c6 c7 c8 c9 c10 c11 zf hO2 hZ hA''
        obtain ⟨c0, c1, c2, c3, c4, c5, c6, c7, c8, c9, c10, c11⟩ := hO1.cell
        simp [bodyPost, results, Try.results10, go_sem, c0, c1, c2, c3, c4, c5, c6, c7, c8, c9, c10, c11]
        exact hpost
      all_goals
        go_wp2_with fail
        obtain ⟨hO1, hO2⟩ := hZ
        dsimp only [store12, Pkt.zero] at hO1 hO2
        generalize World.setCell _ _ _ = wF at hO1 hO2 ⊢
        have hpost : DecodeP (strNums s) w (.returned (.tuple #[Pkt.zero.val, .int .i64 1])) wF := ⟨hO2, .inr ⟨hF0, rfl⟩⟩
        clear b0 b1 b2 b3 b4 b5 b6 b7 b8 b9 b10 b11 c0 c1 c2 c3 c4 c5 c6 c7 c8 c9 c10 c11 zf hO2 hO hA''
        obtain ⟨c0, c1, c2, c3, c4, c5, c6, c7, c8, c9, c10, c11⟩ := hO1.cell
        simp [bodyPost, results, Try.results10, go_sem, c0, c1, c2, c3, c4, c5, c6, c7, c8, c9, c10, c11]
        exact hpost
end Go.Proofs.Ytmahaccaglaldaa
