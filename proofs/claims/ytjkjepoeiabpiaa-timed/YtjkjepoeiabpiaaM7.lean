import Derived.Test.YtjkjepoeiabpiaaM6
import Derived.Deep.RegionHeld3
namespace Go.Proofs.Ytjkjepoeiabpiaa
open Go.RowKit Go.Maps
open Hp

/-- Two fresh sets, as the body lays them. -/
theorem Inv.start {w w1 w2 : World} (hb1 : Below w.heap.size w w1) (r1 : TR w.heap.size (w.heap.size + 1) w.heap.size 0 [] (.slice none 0 0) w1) (hb2 : Below w1.heap.size w1 w2) (r2 : TR w1.heap.size (w1.heap.size + 1) w1.heap.size 0 [] (.slice none 0 0) w2) :
    Inv w (fun b => if b then w1.heap.size + 1 else w.heap.size + 1) (fun b => if b then w1.heap.size else w.heap.size) (fun b => if b then w2.heap.size + 1 + 1 else w2.heap.size + 1) w2.heap.size (w2.heap.size + 1 + 1 + 1) (fun _ => 0) (fun _ => 0) (fun _ => []) (fun _ => []) (fun _ => .slice none 0 0) (fun _ => .slice none 0 0)
      ((((w2.alloc (.cells #[.pointer (some ⟨w.heap.size + 1, 0, none⟩), .pointer (some ⟨w1.heap.size + 1, 0, none⟩)] 52)).alloc (.cells #[.slice none 0 0, .int .i64 0] 58)).alloc (.cells #[.slice none 0 0, .int .i64 0] 58)).alloc
        (.cells #[.pointer (some ⟨w2.heap.size + 1, 0, none⟩), .pointer (some ⟨w2.heap.size + 1 + 1, 0, none⟩)] 55)) := by
  have l1 := r1.blk.lt
  have hs1 := hb1.size
  have hs2 := hb2.size
  generalize ho1 : (Obj.cells #[.pointer (some ⟨w.heap.size + 1, 0, none⟩), .pointer (some ⟨w1.heap.size + 1, 0, none⟩)] 52) = o1
  generalize ho2 : (Obj.cells #[.slice none 0 0, .int .i64 0] 58) = o2
  generalize ho3 : (Obj.cells #[.pointer (some ⟨w2.heap.size + 1, 0, none⟩), .pointer (some ⟨w2.heap.size + 1 + 1, 0, none⟩)] 55) = o3
  have b3 : Below w2.heap.size w2 (w2.alloc o1) := (Below.refl _ _).alloc (Nat.le_refl _) _
  have b4 : Below (w2.alloc o1).heap.size (w2.alloc o1) ((w2.alloc o1).alloc o2) := (Below.refl _ _).alloc (Nat.le_refl _) _
  have b5 : Below ((w2.alloc o1).alloc o2).heap.size ((w2.alloc o1).alloc o2) (((w2.alloc o1).alloc o2).alloc o2) := (Below.refl _ _).alloc (Nat.le_refl _) _
  have b6 : Below (((w2.alloc o1).alloc o2).alloc o2).heap.size (((w2.alloc o1).alloc o2).alloc o2) ((((w2.alloc o1).alloc o2).alloc o2).alloc o3) := (Below.refl _ _).alloc (Nat.le_refl _) _
  have n1 := heap_alloc_new w2 o1
  have n2 := heap_alloc_new (w2.alloc o1) o2
  have n3 := heap_alloc_new ((w2.alloc o1).alloc o2) o2
  have n4 := heap_alloc_new (((w2.alloc o1).alloc o2).alloc o2) o3
  have z1 : (w2.alloc o1).heap.size = w2.heap.size + 1 := World.size_alloc ..
  have z2 : ((w2.alloc o1).alloc o2).heap.size = w2.heap.size + 1 + 1 := by rw [World.size_alloc, z1]
  have z3 : (((w2.alloc o1).alloc o2).alloc o2).heap.size = w2.heap.size + 1 + 1 + 1 := by rw [World.size_alloc, z2]
  have b46 := b4.trans ((b5.trans (b6.mono b5.size)).mono b4.size)
  have b36 := b3.trans (b46.mono b3.size)
  have b56 := b5.trans (b6.mono b5.size)
  have m1 := (b46.block w2.heap.size (by rw [z1]; omega)).trans n1
  have m2 := (b56.block (w2.alloc o1).heap.size (by rw [z2, z1]; omega)).trans n2
  have m3 := (b6.block ((w2.alloc o1).alloc o2).heap.size (by rw [z3, z2]; omega)).trans n3
  rw [z1] at m2
  rw [z2] at m3
  rw [z3] at n4
  refine ⟨?_, ?_, ?_, ?_, ?_, ?_, ?_, fun k hk => by simp [Value.ownBlock] at hk, fun k hk => by simp [Value.ownBlock] at hk, hb1.trans ((hb2.mono hb1.size).trans (b36.mono (Nat.le_trans hs1 hs2)))⟩
  · intro b
    cases b
    · exact (r1.later hb2).later b36
    · exact (r2.lower hs1).later b36
  · intro b
    cases b
    · exact ⟨by unfold RB; subst ho2; exact m2, ⟨rfl, .inl ⟨rfl, rfl⟩⟩, fun x hx => by simp at hx, by simp; omega⟩
    · exact ⟨by unfold RB; subst ho2; exact m3, ⟨rfl, .inl ⟨rfl, rfl⟩⟩, fun x hx => by simp at hx, by simp; omega⟩
  · unfold PRow; subst ho1; exact m1
  · unfold PRow; subst ho3; exact n4
  · simp; omega
  · simp; omega
  · simp
theorem Two2.start : Two2 0 (fun _ => 0) (fun _ => []) (fun _ => []) :=
  ⟨fun _ => Same.start, fun _ => Int.le_refl _, fun _ => Int.le_refl _, fun _ => Nat.le_refl _⟩

set_option maxRecDepth 100000 in
set_option maxHeartbeats 8000000 in
theorem Timed_short (so : Option Addr) (n c : Nat) (L : List Sp) (hL : L.length = n) (hn : n ≤ 4096) (hok : ∀ x ∈ L, SpOk x) (w : World) (hC : HoldsC w so (SL L)) :
    Calls Try.prog 6 #[.slice so n c] w fun e w' => e = .returned (.bool true) ∧ Below w.heap.size w w' := by
  have e0 : decide (4096 < (n : Int)) = false := decide_eq_false (by omega)
  go_enter Try.func6, Try.ntmps6
  go_wp2_with fail
  refine (NewTimers_any _).mono ?_
  rintro e w1 ⟨rfl, hB1, r1⟩
  go_wp2_with fail
  refine (NewTimers_any _).mono ?_
  rintro e w2 ⟨rfl, hB2, r2⟩
  have hI := Inv.start hB1 r1 hB2 r2
  generalize (fun b : Bool => if b then w1.heap.size + 1 else w.heap.size + 1) = T at hI
  generalize (fun b : Bool => if b then w1.heap.size else w.heap.size) = M at hI
  generalize (fun b : Bool => if b then w2.heap.size + 1 + 1 else w2.heap.size + 1) = R at hI
  clear r1 r2 hB1 hB2
  go_wp2_with fail
  generalize World.alloc _ _ = W0 at hI ⊢
  generalize w2.heap.size + 1 + 1 + 1 = gr at hI ⊢
  generalize w2.heap.size = gt at hI ⊢
  go_loopw [5] (fun iv wr => ∃ (k : Nat) (l : Bool → Int) (h A : Bool → List Tm) (v u : Bool → Value), k ≤ n ∧ iv = .int .i64 k ∧ Inv w T M R gt gr l l h A v u wr ∧ Two2 k l h A) (fun iv _ => n - (intOf iv).toNat)
  case atStart => exact ⟨0, _, _, _, _, _, Nat.zero_le _, rfl, hI, Two2.start⟩
  case round =>
    clear hI
    obtain ⟨k, l, h, A, v, u, hk, rfl, hI, h2⟩ := hrel
    by_cases hlt : k < n
    · have hkL : k < L.length := by omega
      have hx := hok _ (List.getElem_mem hkL)
      have hCw := hC.below hI.bl
      have hat : ∀ i z, i < 4 → (spC L[k])[i]? = some z → (SL L)[k * 4 + i]? = some z := fun i z hi hz => (flat_at spC 4 (by decide) (fun _ => rfl) L k i hi (List.getElem?_eq_getElem hkL)).trans hz
      obtain ⟨b, o, rfl, hjunk⟩ := hCw (k * 4 + 0) _ (hat 0 _ (by decide) rfl)
      clear hjunk
      have c0 := hCw.one rfl (hat 0 _ (by decide) rfl)
      have c1 := hCw.one rfl (hat 1 _ (by decide) rfl)
      have c2 := hCw.one rfl (hat 2 _ (by decide) rfl)
      have c3 := hCw.one rfl (hat 3 _ (by decide) rfl)
      clear hCw hat
      generalize L[k] = x at hx c0 c1 c2 c3
      obtain ⟨d, nn, aa, tw⟩ := x
      obtain ⟨hd64, hn64, ha0, ha1⟩ := hx
      dsimp only at hd64 hn64 ha0 ha1 c0 c1 c2 c3
      rw [Nat.add_zero] at c0
      rw [← Nat.add_assoc] at c1 c2 c3
      have hA := hI.later ((Below.refl _ _).alloc (Nat.le_refl _) (spBox (d, nn, aa, tw)))
      have hS : SpB wr.heap.size (d, nn, aa, tw) (wr.alloc (spBox (d, nn, aa, tw))) := heap_alloc_new _ _
      obtain ⟨s0, s1, s2, s3⟩ := hS.cell
      have hkn : (k : Int) < (n : Int) := by omega
      dsimp only [spBox] at hA hS s0 s1 s2 s3
      clear hI hkL
      cases tw
      · by_cases hd1 : d = 1
        · subst hd1
          obtain ⟨hp1, hp2⟩ := pairAdd (base := w.heap.size) (T := T false) (M := M false) (R := R false) (v := v false) (u := u false) (h2.same false) (by have := h2.len false; omega) (h2.low false) (by have := h2.high false; omega) aa nn ⟨ha0, ha1⟩ hn64
          go_wp2_with fail
          generalize World.alloc _ _ = W1 at hA hS ⊢
          generalize wr.heap.size = B at hS ⊢
          have hss : SS gt 0 (T false) B nn aa W1.drew := (hA.drew.ssT hS.drew).1
          go_region_held3 (SS gt 0 (T false) B nn aa) (first | exact hss | assumption) ((go_at_call 24; refine (hp1 _ (hA.drew.tr false) hA.drew.bl.size).mono ?_; rintro e w2 ⟨rfl, h', v', r', hF, hv, hs'⟩; have hk2 : SS gt 0 (T false) B nn aa w2 := (hA.drew.keepT false hS.drew hF).1))
          have hI2 := hA.drew.stepT false hF r' hv
          have hS2 := hA.drew.spT false hS.drew hF
          clear hss hA hS hF r' hv hp1
          have hss : SS gr 0 (R false) B nn aa w2.drew := (hI2.drew.ssR hS2.drew).1
          go_wp2_with fail
          go_region_held3 (SS gr 0 (R false) B nn aa) (first | exact hss | assumption) ((go_at_call 25; refine (hp2 _ (hI2.drew.rr false) hI2.drew.bl.size).mono ?_; rintro e w3 ⟨rfl, u', r', hF, hu⟩; have hk3 : SS gr 0 (R false) B nn aa w3 := (hI2.drew.keepR false hS2.drew hF).1))
          have hI3 := hI2.drew.stepR false hF r' hu
          clear hss hI2 hS2 hF r' hu hp2
          go_wp2
          go_roundw
          case rel => exact ⟨k + 1, _, _, _, _, _, by omega, by go_num, hI3, h2.step false hs' (by have := h2.low false; omega) (by have := h2.high false; omega) (by have := h2.len false; simp; omega)⟩
          case measure => simp [intOf]; omega
        · have hdb1 : (d == 1) = false := by rw [beq_eq_false_iff_ne]; exact hd1
          by_cases hd2 : d = 2
          · subst hd2
            obtain ⟨cc, A', hAl, hp1, hp2⟩ := pairCancel (base := w.heap.size) (T := T false) (M := M false) (R := R false) (v := v false) (u := u false) (h2.same false) (by have := h2.len false; omega) nn hn64
            go_wp2_with fail
            generalize World.alloc _ _ = W1 at hA hS ⊢
            generalize wr.heap.size = B at hS ⊢
            have hss : SS gt 0 (T false) B nn aa W1.drew := (hA.drew.ssT hS.drew).1
            go_region_held3 (SS gt 0 (T false) B nn aa) (first | exact hss | assumption) ((go_at_call 26; refine (hp1 _ (hA.drew.tr false)).mono ?_; rintro e w2 ⟨rfl, h', v', r', hF, hv, hs'⟩; have hk2 : SS gt 0 (T false) B nn aa w2 := (hA.drew.keepT false hS.drew hF).1))
            have hI2 := hA.drew.stepT false hF r' hv
            have hS2 := hA.drew.spT false hS.drew hF
            clear hss hA hS hF r' hv hp1
            have hss : SS gr 0 (R false) B nn aa w2.drew := (hI2.drew.ssR hS2.drew).1
            go_wp2_with fail
            go_region_held3 (SS gr 0 (R false) B nn aa) (first | exact hss | assumption) ((go_at_call 27; refine (hp2 _ (hI2.drew.rr false) hI2.drew.bl.size).mono ?_; rintro e w3 ⟨rfl, u', r', hF, hu⟩; have hk3 : SS gr 0 (R false) B nn aa w3 := (hI2.drew.keepR false hS2.drew hF).1))
            have hI3 := hI2.drew.stepR false hF r' hu
            clear hss hI2 hS2 hF r' hu hp2
            go_wp2
            go_roundw
            case rel => exact ⟨k + 1, _, _, _, _, _, by omega, by go_num, hI3, h2.step false hs' (h2.low false) (by have := h2.high false; omega) (by have := h2.len false; omega)⟩
            case measure => simp [intOf]; omega
          · have hdb2 : (d == 2) = false := by rw [beq_eq_false_iff_ne]; exact hd2
            by_cases hd3 : d = 3
            · subst hd3
              obtain ⟨what, cc, A', hAl, hp1, hp2⟩ := pairNext (base := w.heap.size) (T := T false) (M := M false) (R := R false) (v := v false) (u := u false) (h2.same false) (by have := h2.len false; omega) aa ha0 ha1
              go_wp2_with fail
              generalize World.alloc _ _ = W1 at hA hS ⊢
              generalize wr.heap.size = B at hS ⊢
              have hss : SS gt 0 (T false) B nn aa W1.drew := (hA.drew.ssT hS.drew).1
              go_region_held3 (SS gt 0 (T false) B nn aa) (first | exact hss | assumption) ((go_at_call 28; refine (hp1 _ (hA.drew.tr false)).mono ?_; rintro e w2 ⟨rfl, h', v', r', hF, hv, hs'⟩; have hk2 : SS gt 0 (T false) B nn aa w2 := (hA.drew.keepT false hS.drew hF).1))
              have hI2 := hA.drew.stepT false hF r' hv
              have hS2 := hA.drew.spT false hS.drew hF
              clear hss hA hS hF r' hv hp1
              have hss : SS gr 0 (R false) B nn aa w2.drew := (hI2.drew.ssR hS2.drew).1
              go_wp2_with fail
              go_region_held3 (SS gr 0 (R false) B nn aa) (first | exact hss | assumption) ((go_at_call 29; refine (hp2 _ (hI2.drew.rr false) hI2.drew.bl.size).mono ?_; rintro e w3 ⟨rfl, u', r', hF, hu⟩; have hk3 : SS gr 0 (R false) B nn aa w3 := (hI2.drew.keepR false hS2.drew hF).1))
              have hI3 := hI2.drew.stepR false hF r' hu
              clear hss hI2 hS2 hF r' hu hp2
              go_wp2
              go_roundw
              case rel => exact ⟨k + 1, _, _, _, _, _, by omega, by go_num, hI3, h2.step false hs' (h2.low false) (by have := h2.high false; omega) (by have := h2.len false; omega)⟩
              case measure => simp [intOf]; omega
            · have hdb3 : (d == 3) = false := by rw [beq_eq_false_iff_ne]; exact hd3
              have hlen : (((h false).length : Int) == ((A false).length : Int)) = true := by rw [beq_iff_eq]; have := (h2.same false).len; omega
              have q2 := (hA.ssT hS).1.1
              go_wp2_with fail
              generalize World.alloc _ _ = W1 at hA hS ⊢
              generalize wr.heap.size = B at hS ⊢
              refine (Len_any w.heap.size (T false) (M false) (l false) (h false) (v false) _ (hA.tr false)).mono ?_
              rintro e w2 ⟨rfl, rfl⟩
              obtain ⟨ao, cap, hu, _⟩ := row_form (hA.rr false).row
              have q0 := (hA.rr false).blk.cell.1
              rw [hu] at q0
              have q1 := (hA.ssR hS).1.1
              clear s0 s1 s2 s3
              go_wp2
              go_roundw
              case rel => exact ⟨k + 1, _, _, _, _, _, by omega, by go_num, hA, h2.more⟩
              case measure => simp [intOf]; omega
      · by_cases hd1 : d = 1
        · subst hd1
          obtain ⟨hp1, hp2⟩ := pairAdd (base := w.heap.size) (T := T true) (M := M true) (R := R true) (v := v true) (u := u true) (h2.same true) (by have := h2.len true; omega) (h2.low true) (by have := h2.high true; omega) aa nn ⟨ha0, ha1⟩ hn64
          go_wp2_with fail
          generalize World.alloc _ _ = W1 at hA hS ⊢
          generalize wr.heap.size = B at hS ⊢
          have hss : SS gt 1 (T true) B nn aa W1.drew := (hA.drew.ssT hS.drew).2
          go_region_held3 (SS gt 1 (T true) B nn aa) (first | exact hss | assumption) ((go_at_call 24; refine (hp1 _ (hA.drew.tr true) hA.drew.bl.size).mono ?_; rintro e w2 ⟨rfl, h', v', r', hF, hv, hs'⟩; have hk2 : SS gt 1 (T true) B nn aa w2 := (hA.drew.keepT true hS.drew hF).2))
          have hI2 := hA.drew.stepT true hF r' hv
          have hS2 := hA.drew.spT true hS.drew hF
          clear hss hA hS hF r' hv hp1
          have hss : SS gr 1 (R true) B nn aa w2.drew := (hI2.drew.ssR hS2.drew).2
          go_wp2_with fail
          go_region_held3 (SS gr 1 (R true) B nn aa) (first | exact hss | assumption) ((go_at_call 25; refine (hp2 _ (hI2.drew.rr true) hI2.drew.bl.size).mono ?_; rintro e w3 ⟨rfl, u', r', hF, hu⟩; have hk3 : SS gr 1 (R true) B nn aa w3 := (hI2.drew.keepR true hS2.drew hF).2))
          have hI3 := hI2.drew.stepR true hF r' hu
          clear hss hI2 hS2 hF r' hu hp2
          go_wp2
          go_roundw
          case rel => exact ⟨k + 1, _, _, _, _, _, by omega, by go_num, hI3, h2.step true hs' (by have := h2.low true; omega) (by have := h2.high true; omega) (by have := h2.len true; simp; omega)⟩
          case measure => simp [intOf]; omega
        · have hdb1 : (d == 1) = false := by rw [beq_eq_false_iff_ne]; exact hd1
          by_cases hd2 : d = 2
          · subst hd2
            obtain ⟨cc, A', hAl, hp1, hp2⟩ := pairCancel (base := w.heap.size) (T := T true) (M := M true) (R := R true) (v := v true) (u := u true) (h2.same true) (by have := h2.len true; omega) nn hn64
            go_wp2_with fail
            generalize World.alloc _ _ = W1 at hA hS ⊢
            generalize wr.heap.size = B at hS ⊢
            have hss : SS gt 1 (T true) B nn aa W1.drew := (hA.drew.ssT hS.drew).2
            go_region_held3 (SS gt 1 (T true) B nn aa) (first | exact hss | assumption) ((go_at_call 26; refine (hp1 _ (hA.drew.tr true)).mono ?_; rintro e w2 ⟨rfl, h', v', r', hF, hv, hs'⟩; have hk2 : SS gt 1 (T true) B nn aa w2 := (hA.drew.keepT true hS.drew hF).2))
            have hI2 := hA.drew.stepT true hF r' hv
            have hS2 := hA.drew.spT true hS.drew hF
            clear hss hA hS hF r' hv hp1
            have hss : SS gr 1 (R true) B nn aa w2.drew := (hI2.drew.ssR hS2.drew).2
            go_wp2_with fail
            go_region_held3 (SS gr 1 (R true) B nn aa) (first | exact hss | assumption) ((go_at_call 27; refine (hp2 _ (hI2.drew.rr true) hI2.drew.bl.size).mono ?_; rintro e w3 ⟨rfl, u', r', hF, hu⟩; have hk3 : SS gr 1 (R true) B nn aa w3 := (hI2.drew.keepR true hS2.drew hF).2))
            have hI3 := hI2.drew.stepR true hF r' hu
            clear hss hI2 hS2 hF r' hu hp2
            go_wp2
            go_roundw
            case rel => exact ⟨k + 1, _, _, _, _, _, by omega, by go_num, hI3, h2.step true hs' (h2.low true) (by have := h2.high true; omega) (by have := h2.len true; omega)⟩
            case measure => simp [intOf]; omega
          · have hdb2 : (d == 2) = false := by rw [beq_eq_false_iff_ne]; exact hd2
            by_cases hd3 : d = 3
            · subst hd3
              obtain ⟨what, cc, A', hAl, hp1, hp2⟩ := pairNext (base := w.heap.size) (T := T true) (M := M true) (R := R true) (v := v true) (u := u true) (h2.same true) (by have := h2.len true; omega) aa ha0 ha1
              go_wp2_with fail
              generalize World.alloc _ _ = W1 at hA hS ⊢
              generalize wr.heap.size = B at hS ⊢
              have hss : SS gt 1 (T true) B nn aa W1.drew := (hA.drew.ssT hS.drew).2
              go_region_held3 (SS gt 1 (T true) B nn aa) (first | exact hss | assumption) ((go_at_call 28; refine (hp1 _ (hA.drew.tr true)).mono ?_; rintro e w2 ⟨rfl, h', v', r', hF, hv, hs'⟩; have hk2 : SS gt 1 (T true) B nn aa w2 := (hA.drew.keepT true hS.drew hF).2))
              have hI2 := hA.drew.stepT true hF r' hv
              have hS2 := hA.drew.spT true hS.drew hF
              clear hss hA hS hF r' hv hp1
              have hss : SS gr 1 (R true) B nn aa w2.drew := (hI2.drew.ssR hS2.drew).2
              go_wp2_with fail
              go_region_held3 (SS gr 1 (R true) B nn aa) (first | exact hss | assumption) ((go_at_call 29; refine (hp2 _ (hI2.drew.rr true) hI2.drew.bl.size).mono ?_; rintro e w3 ⟨rfl, u', r', hF, hu⟩; have hk3 : SS gr 1 (R true) B nn aa w3 := (hI2.drew.keepR true hS2.drew hF).2))
              have hI3 := hI2.drew.stepR true hF r' hu
              clear hss hI2 hS2 hF r' hu hp2
              go_wp2
              go_roundw
              case rel => exact ⟨k + 1, _, _, _, _, _, by omega, by go_num, hI3, h2.step true hs' (h2.low true) (by have := h2.high true; omega) (by have := h2.len true; omega)⟩
              case measure => simp [intOf]; omega
            · have hdb3 : (d == 3) = false := by rw [beq_eq_false_iff_ne]; exact hd3
              have hlen : (((h true).length : Int) == ((A true).length : Int)) = true := by rw [beq_iff_eq]; have := (h2.same true).len; omega
              have q2 := (hA.ssT hS).2.1
              go_wp2_with fail
              generalize World.alloc _ _ = W1 at hA hS ⊢
              generalize wr.heap.size = B at hS ⊢
              refine (Len_any w.heap.size (T true) (M true) (l true) (h true) (v true) _ (hA.tr true)).mono ?_
              rintro e w2 ⟨rfl, rfl⟩
              obtain ⟨ao, cap, hu, _⟩ := row_form (hA.rr true).row
              have q0 := (hA.rr true).blk.cell.1
              rw [hu] at q0
              have q1 := (hA.ssR hS).2.1
              clear s0 s1 s2 s3
              go_wp2
              go_roundw
              case rel => exact ⟨k + 1, _, _, _, _, _, by omega, by go_num, hA, h2.more⟩
              case measure => simp [intOf]; omega
    · obtain rfl : k = n := by omega
      have hbl := hI.bl
      clear hI hlt h2
      go_wp2
      go_ret
      exact ⟨rfl, hbl⟩
end Go.Proofs.Ytjkjepoeiabpiaa
