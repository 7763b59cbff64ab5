import Derived.Test.YtmahaccaglaldaaG4
namespace Go.Proofs.Ytmahaccaglaldaa
open Go.RowKit

/-- The packet that Turns asks of first. -/
@[reducible] def pkX : Pkt := ⟨1, 9, 0, false, 1, 2, 0, 3, 0, 0, none, 0, 0, ⟨#[120]⟩⟩
theorem pkX_good (w : World) : Calls Try.prog 6 #[pkX.val] w fun e w' => ∃ v, e = .returned (.tuple #[v, .int .i64 0]) ∧ Below w.heap.size w w' ∧ ∃ g cap, v = .slice (some ⟨g, 0, none⟩) 18 cap := by
  have hs : (⟨#[120]⟩ : ByteArray).size = 1 := rfl
  have hw : pkX.Wf := by constructor <;> (dsimp only [pkX]; omega)
  refine (Encode_good pkX hw rfl (by decide) (by decide) (by decide) (by decide) (by decide) (by decide) (by decide) (by decide) [] w ⟨rfl, fun j hj => absurd hj (by simp)⟩).mono ?_
  rintro e w' ⟨v, rfl, hb, hv, ho⟩
  obtain ⟨g, cap, rfl, _⟩ := row_shape ho hv
  exact ⟨_, rfl, hb, g, cap, rfl⟩

structure TInv (p : Pkt) (L : List (Int × Int)) (w W : World) : Prop where
  pb : PB p w.heap.size W
  la : HoldsA W p.la L
  bl : Below w.heap.size w W
theorem TInv.step {p : Pkt} {L : List (Int × Int)} {w W W' : World} (h : TInv p L w W) (hb : Below W.heap.size W W') : TInv p L w W' :=
  ⟨h.pb.below hb, h.la.below hb, h.bl.trans (hb.mono h.bl.size)⟩
theorem TInv.start {p : Pkt} {L : List (Int × Int)} {w : World} (h : HoldsA w p.la L) : TInv p L w (w.alloc p.box) := by
  have hb : Below w.heap.size w (w.alloc p.box) := (Below.refl _ _).alloc (Nat.le_refl _) _
  exact ⟨PB.new p w, h.below hb, hb⟩
theorem below_stored (W : World) (q : Pkt) : Below W.heap.size W (store12 (W.alloc Pkt.zero.box) W.heap.size q) :=
  below_storeB ((Below.refl _ _).alloc (Nat.le_refl _) _) (Nat.le_refl _) q
theorem pb_stored (W : World) (q : Pkt) : PB q W.heap.size (store12 (W.alloc Pkt.zero.box) W.heap.size q) := (PB.new Pkt.zero W).storeAll q

set_option maxRecDepth 100000 in
set_option maxHeartbeats 4000000 in
theorem Turns_good (p : Pkt) (hp : p.Wf) (hg : p.goodB = true) (hln : p.ln ≤ 4096) (s : ByteArray) (hs : s.size ≤ 65536) (L : List (Int × Int)) (w : World) (hL : HoldsL w p L) :
    Calls Try.prog 5 #[p.val, .string s] w fun e w' => e = .returned (.bool true) ∧ Below w.heap.size w w' := by
  have hpay := hp.pay1
  have hA : HoldsA w p.la L := hL.2
  have hLn : Hid (L.length = p.ln) := hL.1
  have hgp := good_parts hg
  have hgf := good_fits hg
  have hT0 := TInv.start hA
  have e0 : decide (65536 < (s.size : Int)) = false := decide_eq_false (by omega)
  have e1 : decide (65536 < (p.pay.size : Int)) = false := decide_eq_false (by omega)
  have e2 : decide (4096 < (p.ln : Int)) = false := decide_eq_false (by omega)
  go_enter Try.func5, Try.ntmps5
  go_wp2_with fail
  dsimp only [Pkt.box] at hT0
  clear hL hA
  generalize World.alloc _ _ = W0 at hT0 ⊢
  refine (pkX_good _).mono ?_
  rintro e W1 ⟨_, rfl, hb1, g1, cap1, rfl⟩
  have hT1 := hT0.step hb1
  clear hT0 hb1
  obtain ⟨a0, a1, a2, a3, a4, a5, a6, a7, a8, a9, a10, a11⟩ := hT1.pb.cell
  have af := hT1.pb.free
  go_wp2_with fail
  refine (Encode_good p hp hg hgp.2.1 hgp.2.2.1 hgf.1 hgf.2.1 hgf.2.2.1 hgf.2.2.2.1 hgf.2.2.2.2 hgp.2.2.2.2.2.1 L _ ⟨hLn.out, hT1.la⟩).mono ?_
  rintro e W2 ⟨v2, rfl, hb2, hv2, ho2⟩
  have hT2 := hT1.step hb2
  have hr2 := rest_row ho2 (encB_b hp hg hT2.la)
  obtain ⟨g2, cap2, rfl, _⟩ := row_shape ho2 hv2
  clear a0 a1 a2 a3 a4 a5 a6 a7 a8 a9 a10 a11 af hT1 hb2 ho2 hv2
  go_wp2_with fail
  refine (Decode_any _ _ _ hr2).mono ?_
  rintro e W3 ⟨hb3, ⟨_, v3, rfl, hrd⟩ | ⟨hF, _⟩⟩
  rotate_left
  · rw [isF_enc p hg L hLn.out] at hF
    cases hF
  obtain ⟨ao, c, rfl, hA3, hfr⟩ := hrd.fwd hg hLn.out
  have hT3 := hT2.step hb3
  have hr3 := hr2.kept hb3
  clear hT2 hb3 hr2 hrd
  have hb4 : Below W3.heap.size W3 (W3.alloc (Pkt.box { p with la := ao, lc := c })) := (Below.refl _ _).alloc (Nat.le_refl _) _
  have hq4 : PB { p with la := ao, lc := c } W3.heap.size (W3.alloc (Pkt.box { p with la := ao, lc := c })) := PB.new _ _
  have hT4 := hT3.step hb4
  have hA4 := hA3.below hb4
  have hr4 := hr3.kept hb4
  obtain ⟨a0, a1, a2, a3, a4, a5, a6, a7, a8, a9, a10, a11⟩ := hT4.pb.cell
  obtain ⟨b0, b1, b2, b3, b4, b5, b6, b7, b8, b9, b10, b11⟩ := hq4.cell
  dsimp only [Pkt.box] at a0 a1 a2 a3 a4 a5 a6 a7 a8 a9 a10 a11 b0 b1 b2 b3 b4 b5 b6 b7 b8 b9 b10 b11 hT4 hA4 hr4
  clear hT3 hA3 hr3 hb4
  go_wp2_with fail
  dsimp only [Pkt.box] at hq4
  clear a0 a1 a2 a3 a4 a5 a6 a7 a8 a9 a10 a11 b0 b1 b2 b3 b4 b5 b6 b7 b8 b9 b10 b11 hfr
  generalize W3.heap.size = C at hq4 ⊢
  generalize World.alloc _ _ = W4 at hT4 hA4 hr4 hq4 ⊢
  refine (klost_eq p.la ao p.ln p.lc c L _ hLn.out (by omega) hT4.la hA4).mono ?_
  rintro e W5 ⟨rfl, hb5⟩
  have hT5 := hT4.step hb5
  have hq5 := hq4.below hb5
  have hr5 := hr4.kept hb5
  clear hT4 hA4 hr4 hq4 hb5
  obtain ⟨a0, a1, a2, a3, a4, a5, a6, a7, a8, a9, a10, a11⟩ := hT5.pb.cell
  obtain ⟨b0, b1, b2, b3, b4, b5, b6, b7, b8, b9, b10, b11⟩ := hq5.cell
  dsimp only at b0 b1 b2 b3 b4 b5 b6 b7 b8 b9 b10 b11
  obtain ⟨i0, hi, hz0, hz1, hz2⟩ := info_parts info_u8
  have ho5 := World.ownsRow_made (base := W5.heap.size) (e := 5) (size := 1) W5 #[] 0 (by simp) (by unfold maxLen; omega) rfl
  have hba : Below W5.heap.size W5 (W5.alloc (.cells #[] 5)) := (Below.refl _ _).alloc (Nat.le_refl _) _
  have hlen : (encB p L).length ≤ 65536 := encB_len hLn.out hgf.2.2.2.2 hgp.2.2.2.2.2.1
  have hsrc := src_rest (hr5.kept hba)
  go_wp2_with (at_builtin; refine wpList_append_own_src _ rfl _ _ 27 27 rfl W5.heap.size 5 i0 (.int .u8 0) 1 1 Try.underlying27 hi hz0 hz1 hz2 rfl (.slice (some ⟨W5.heap.size, 0, none⟩) 0 0) 0 [] rfl ho5 (by simp) _ (encB p L).length (U (encB p L)) rfl hsrc ?c1 ?c2 ?c3 ?_)
  case c1 => unfold maxLen; omega
  case c2 => omega
  case c3 => rw [World.size_alloc]; omega
  intro v6 W6 ho6 hg6 hv6
  have hB6 : Below W5.heap.size W5 W6 := hba.grown hg6 (by simp) (fun k hk => by simp [Value.ownBlock] at hk; omega)
  have ho6' : W6.ownsRow W5.heap.size 5 1 v6 (encB p L).length (U (encB p L)) := by simpa using ho6
  have ho7 := ho6'.alloc (.cells #[.int .u8 0] 5)
  have hB7 : Below W5.heap.size W5 (W6.alloc (.cells #[.int .u8 0] 5)) := hB6.alloc hB6.size _
  have hsrc7 : Src Try.prog 1 27 (.slice (some ⟨W6.heap.size, 0, none⟩) 1 1) 1 [.int .u8 0] (W6.alloc (.cells #[.int .u8 0] 5)) :=
    Src.ofSlice _ Try.underlying27 _ 1 1 _ rfl (fun j u hj => by
      have hh := heap_alloc_new W6 (.cells #[.int .u8 0] 5)
      cases j with
      | zero => exact (cell_of_row _ _ 0 _ _ _ hh).trans hj
      | succ j => simp at hj) (fun u hu => by simp at hu; subst hu; rfl)
  have hs7 := hB7.size
  clear a0 a1 a2 a3 a4 a5 a6 a7 a8 a9 a10 a11 b0 b1 b2 b3 b4 b5 b6 b7 b8 b9 b10 b11 ho5 hba hsrc ho6 ho6' hg6 hB6
  go_wp2_with (at_builtin; refine wpList_append_own_src _ rfl _ _ 27 27 rfl W5.heap.size 5 i0 (.int .u8 0) 1 1 Try.underlying27 hi hz0 hz1 hz2 rfl v6 (encB p L).length (U (encB p L)) rfl ho7 hv6 _ 1 [.int .u8 0] rfl hsrc7 ?c1 ?c2 ?c3 ?_)
  case c1 => unfold maxLen; omega
  case c2 => omega
  case c3 => exact hs7
  intro v8 W8 ho8 hg8 hv8
  have hB8 : Below W5.heap.size W5 W8 := hB7.grown hg8 hs7 (fun k hk => (ho7.lt k hk).1)
  have ho8' : W8.ownsRow W5.heap.size 5 1 v8 (encB p L ++ [0]).length (U (encB p L ++ [0])) := by
    rw [List.length_append, U, List.map_append]
    exact ho8
  have hr8 := rest_row ho8' (fun x hx => by
    rcases List.mem_append.1 hx with hx | hx
    · exact hr5.1 x hx
    · simp at hx; omega)
  have hT8 := hT5.step hB8
  have hrb8 := hr5.kept hB8
  obtain ⟨g8, c8, rfl, _⟩ := row_shape ho8' hv8
  clear ho7 hB7 hsrc7 ho8 hg8 hB8 ho8' hv8 hv6 hs7 hi hz0 hz1 hz2 hT5 hr5 hq5
  go_wp2_with fail
  rw [List.length_append, List.length_singleton] at hr8
  refine (Decode_any _ _ _ hr8).mono ?_
  rintro e W9 ⟨hb9, ⟨hF, _⟩ | ⟨_, rfl⟩⟩
  · rw [isF_more p hg L hLn.out] at hF
    cases hF
  have hT9 := hT8.step hb9
  have hrb9 := hrb8.kept hb9
  clear hT8 hrb8 hb9 hr8
  have hb10 : Below W9.heap.size W9 (W9.alloc Pkt.zero.box) := (Below.refl _ _).alloc (Nat.le_refl _) _
  have hT10 := hT9.step hb10
  have hr10 := rest_cut (n := (encB p L).length - 1) (hrb9.kept hb10) (by omega)
  dsimp only [Pkt.box] at hT10 hr10
  have h1len : 1 ≤ (encB p L).length := by rw [encB_cons]; simp
  have hcap2 : (encB p L).length ≤ cap2 := by
    rcases hrb9.2 with ⟨h, _⟩ | ⟨_, _, _, h, h', _⟩
    · cases h
    · cases h; exact h'
  have hsl : ∀ W : World, (Instr.slice 27 (.slice (some ⟨g2, 0, none⟩) (encB p L).length cap2) none (some (.int .i64 (((encB p L).length : Int) - 1))) none).run Try.prog W = .ok (.slice (some ⟨g2, 0, none⟩) ((encB p L).length - 1) cap2) W := by
    intro W
    have ht : Try.prog.underlying 27 = some (.slice (Try.prog.elem 27)) := by simp [Program.elem, Try.underlying27]
    rw [run_slice_h W 27 _ _ _ ht .i64 _ (by omega) (by omega)]
    have hz : ∀ w, (Go.sizeOf (Try.prog.elem 27)).run Try.prog w = .ok 1 w := by
      intro w
      simp [go_sem, Program.elem, Try.underlying27]
    rw [hz]
    simp only [Result.andThen, sliced]
    have e1 : (((encB p L).length : Int) - 1).toNat - 0 = (encB p L).length - 1 := by omega
    rw [e1, Nat.sub_zero]
    split <;> simp [Addr.add]
  clear hT9 hrb9 hb10 hcap2
  go_wp2_with fail
  clear hsl
  generalize World.alloc _ _ = W10 at hT10 hr10 ⊢
  refine (Decode_any _ _ _ hr10).mono ?_
  rintro e W11 ⟨hb11, ⟨hF, _⟩ | ⟨_, rfl⟩⟩
  · rw [isF_less p hg L hLn.out] at hF
    cases hF
  have hb12 : Below W11.heap.size W11 (W11.alloc Pkt.zero.box) := (Below.refl _ _).alloc (Nat.le_refl _) _
  have hB12 : Below w.heap.size w (W11.alloc Pkt.zero.box) := ((hT10.step hb11).step hb12).bl
  dsimp only [Pkt.box] at hB12
  clear hT10 hr10 hb11 hb12
  have hcv := fun w => run_bytes_of_string (P := Try.prog) w 9 27 5 s Try.underlying9 Try.underlying27 Try.underlying5
  go_wp2_with fail
  refine (Decode_any _ (strNums s) _ ?hr).mono ?_
  case hr =>
    have h := rest_new s hs (W11.alloc Pkt.zero.box) ((bytesRow s (grownCap (W11.alloc Pkt.zero.box) s.size 0 5)).size, (bytesRow s (grownCap (W11.alloc Pkt.zero.box) s.size 0 5)).size + 1)
    rw [World.size_alloc] at h
    exact h
  rintro e W13 ⟨hb13, h13⟩
  have hB13 : Below w.heap.size w W13 := by
    have hs12 := hB12.size
    have h12 := (hB12.alloc hs12 (.cells (bytesRow s (grownCap (W11.alloc Pkt.zero.box) s.size 0 5)) 5 ((bytesRow s (grownCap (W11.alloc Pkt.zero.box) s.size 0 5)).size, (bytesRow s (grownCap (W11.alloc Pkt.zero.box) s.size 0 5)).size + 1))).drew
    exact h12.trans (hb13.mono h12.size)
  clear hB12 hb13 hcv
  rcases h13 with ⟨hF, v, rfl, hrd⟩ | ⟨_, rfl⟩
  · obtain ⟨q, M, rfl, hq, hgq, hM, hE, _⟩ := hrd.back (strNums_b s) hF
    have hb14 : Below W13.heap.size W13 (W13.alloc q.box) := (Below.refl _ _).alloc (Nat.le_refl _) _
    have hB14 := hB13.trans (hb14.mono hB13.size)
    have hM14 : HoldsL (W13.alloc q.box) q M := hM.below hb14
    have hgp' := good_parts hgq
    have hgf' := good_fits hgq
    have hE' := (show Hid _ from hE)
    clear hE hrd hM hb14
    dsimp only [Pkt.box] at hB14 hM14
    go_wp2_with fail
    refine (Encode_good q hq hgq hgp'.2.1 hgp'.2.2.1 hgf'.1 hgf'.2.1 hgf'.2.2.1 hgf'.2.2.2.1 hgf'.2.2.2.2 hgp'.2.2.2.2.2.1 M _ hM14).mono ?_
    rintro e W15 ⟨v15, rfl, hb15, hv15, ho15⟩
    have hcv := conv_row W15 _ _ (encB q M) ho15 hv15
    rw [hE'.out, strOfNums_strNums] at hcv
    have hB15 := hB14.trans (hb15.mono hB14.size)
    clear hM14 hB14 hb15 hB13
    go_wp2_with fail
    go_ret
    exact ⟨rfl, hB15⟩
  · go_wp2_with fail
    go_ret
    exact ⟨rfl, hB13.alloc hB13.size _⟩
end Go.Proofs.Ytmahaccaglaldaa
