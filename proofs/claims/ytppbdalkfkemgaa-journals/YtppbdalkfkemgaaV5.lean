import Derived.Test.YtppbdalkfkemgaaB2
import Derived.Test.YtppbdalkfkemgaaV3
import Derived.Test.YtppbdalkfkemgaaK3
import Derived.Test.YtppbdalkfkemgaaL3
import Derived.Deep.CutRange
namespace Go.Proofs.Ytppbdalkfkemgaa
open Go.RowKit

theorem strNums_extract' (s : ByteArray) (a b : Nat) : strNums (s.extract a b) = ((strNums s).drop a).take (b - a) := by
  simp [strNums, ByteArray.data_extract, List.map_take, List.map_drop, Array.toList_extract, List.extract]
theorem n4t_from (s : ByteArray) (k j : Nat) (h : k + j + 4 ≤ s.size) : n4t (s.extract (k + j) s.size) = n4 (((strNums s).drop k).getD j 0) (((strNums s).drop k).getD (j + 1) 0) (((strNums s).drop k).getD (j + 2) 0) (((strNums s).drop k).getD (j + 3) 0) := by
  have hl := strNums_length s
  unfold n4t
  rw [strNums_extract', List.take_of_length_le (by rw [List.length_drop]; omega)]
  simp only [List.getD, List.getElem?_drop, Nat.add_assoc, Nat.add_zero]

theorem strOfNums_strNums' (s : ByteArray) : strOfNums (strNums s) = s := by
  apply ByteArray.ext
  apply Array.ext'
  simp only [strOfNums, strNums, List.map_map]
  rw [List.map_congr_left (g := id) (fun b _ => by simp)]
  simp
theorem RBk.new' {o : Bool} {a s : Int} {W : World} {B : Nat} (h : B = W.heap.size) : RBk B o a s (W.alloc (recBox o a s)) := by
  subst h
  exact RBk.new o a s W
theorem RBk.draws {B : Nat} {o : Bool} {a s : Int} {W : World} (h : RBk B o a s W) (q : Nat) : RBk B o a s (W.drewN q) := h

set_option maxRecDepth 100000 in
set_option maxHeartbeats 4000000 in
theorem rRead_any (s : ByteArray) (hs : s.size ≤ 1000000) (w : World) :
    Calls Try.prog 20 #[.string s] w fun e w' => ∃ u, e = .returned (.tuple #[u, .int .i64 (13 * (jl (strNums s)).length : Nat)]) ∧ Below w.heap.size w w' ∧ w'.ownsRow w.heap.size 41 3 u (jl (strNums s)).length (RC (jl (strNums s))) := by
  obtain ⟨i0, hi, hz0, hz1, hz2⟩ := info_parts info_rec
  have hlen := strNums_length s
  go_enter Try.func20, Try.ntmps20
  go_wp2_with fail
  go_loopw [4, 5] (fun l t wr => ∃ (k : Nat) (L : List (Bool × Int × Int)), L.length = k ∧ 13 * k ≤ s.size ∧ t = .int .i64 (13 * (k : Int)) ∧ wr.ownsRow w.heap.size 41 3 l k (RC L) ∧ Below w.heap.size w wr ∧ jl (strNums s) = L ++ rdJ (s.size - k) ((strNums s).drop (13 * k))) (fun _ t _ => s.size - (intOf t).toNat)
  case atStart => exact ⟨0, [], rfl, by omega, rfl, ⟨rfl, .inl ⟨rfl, rfl⟩⟩, Below.refl _ _, by unfold jl; rw [hlen]; rfl⟩
  case round =>
    obtain ⟨k, L, hLk, h13, rfl, ho, hB, hj⟩ := hrel
    have hj' := (show Hid _ from hj)
    have hLk' := (show Hid _ from hLk)
    have hlen' := (show Hid _ from hlen)
    clear hj hLk hlen
    by_cases hlt : 13 * k + 13 ≤ s.size
    · have hd : decide (13 * (k : Int) + 13 ≤ (s.size : Int)) = true := decide_eq_true (by omega)
      have i0' : 13 * (k : Int) < (s.size : Int) := by omega
      have i1 : 13 * (k : Int) + 1 ≤ (s.size : Int) := by omega
      have i5 : 13 * (k : Int) + 5 ≤ (s.size : Int) := by omega
      have i13 : 13 * (k : Int) + 13 ≤ (s.size : Int) := by omega
      have j1 : (0 : Int) ≤ 13 * (k : Int) + 1 := by omega
      have j5 : (0 : Int) ≤ 13 * (k : Int) + 5 := by omega
      have j0 : (0 : Int) ≤ 13 * (k : Int) := by omega
      have w1 : wrap64 (13 * (k : Int) + 1) = 13 * (k : Int) + 1 := by unfold wrap64; omega
      have w5 : wrap64 (13 * (k : Int) + 5) = 13 * (k : Int) + 5 := by unfold wrap64; omega
      have w13 : wrap64 (13 * (k : Int) + 13) = 13 * (k : Int) + 13 := by unfold wrap64; omega
      have v1 : IntKind.i64.wrap (13 * (k : Int) + 1) = 13 * (k : Int) + 1 := by rw [IntKind.wrap_i64]; omega
      have v5 : IntKind.i64.wrap (13 * (k : Int) + 5) = 13 * (k : Int) + 5 := by rw [IntKind.wrap_i64]; omega
      have hz1' : Hid (4 ≤ (s.extract (13 * (k : Int) + 1).toNat s.size).size) := by
        show 4 ≤ _
        rw [ByteArray.size_extract]; omega
      have hz5' : Hid (4 ≤ (s.extract (13 * (k : Int) + 5).toNat s.size).size) := by
        show 4 ≤ _
        rw [ByteArray.size_extract]; omega
      have e1 : ((s[(13 * (k : Int)).toNat]'(by omega)).toNat : Int) = ((strNums s).drop (13 * k)).getD 0 0 := by
        rw [← strNums_at s _ (by omega), show (13 * (k : Int)).toNat = 13 * k by omega]
        simp [List.getD]
      have e2 : n4t (s.extract (13 * (k : Int) + 1).toNat s.size) = rA ((strNums s).drop (13 * k)) := by
        rw [show (13 * (k : Int) + 1).toNat = 13 * k + 1 by omega, n4t_from s (13 * k) 1 (by omega)]
        rfl
      have e3 : n4t (s.extract (13 * (k : Int) + 5).toNat s.size) = rS ((strNums s).drop (13 * k)) := by
        rw [show (13 * (k : Int) + 5).toNat = 13 * k + 5 by omega, n4t_from s (13 * k) 5 (by omega)]
        rfl
      have e1' : Hid (rO ((strNums s).drop (13 * k)) = (((s[(13 * (k : Int)).toNat]'(by omega)).toNat : Int) == 1)) := by
        show _ = _
        rw [e1]
        rfl
      have e2' : Hid (rA ((strNums s).drop (13 * k)) = n4t (s.extract (13 * (k : Int) + 1).toNat s.size)) := e2.symm
      have e3' : Hid (rS ((strNums s).drop (13 * k)) = n4t (s.extract (13 * (k : Int) + 5).toNat s.size)) := e3.symm
      clear e1 e2 e3
      have hxb : ∀ x ∈ (strNums s).drop (13 * k), 0 ≤ x ∧ x ≤ 255 := fun x hx => strNums_b s x (List.mem_of_mem_drop hx)
      have hg : ∀ i, i < 13 → 0 ≤ ((strNums s).drop (13 * k)).getD i 0 ∧ ((strNums s).drop (13 * k)).getD i 0 ≤ 255 := by
        intro i hi
        have hl2 : i < ((strNums s).drop (13 * k)).length := by rw [List.length_drop, hlen'.out]; omega
        rw [show ((strNums s).drop (13 * k)).getD i 0 = ((strNums s).drop (13 * k))[i] by simp only [List.getD, List.getElem?_eq_getElem hl2, Option.getD_some]]
        exact hxb _ (List.getElem_mem hl2)
      have hbA : Hid (0 ≤ rA ((strNums s).drop (13 * k)) ∧ rA ((strNums s).drop (13 * k)) < 4294967296) := n4_b' (hg 1 (by omega)) (hg 2 (by omega)) (hg 3 (by omega)) (hg 4 (by omega))
      have hbS : Hid (0 ≤ rS ((strNums s).drop (13 * k)) ∧ rS ((strNums s).drop (13 * k)) < 4294967296) := n4_b' (hg 5 (by omega)) (hg 6 (by omega)) (hg 7 (by omega)) (hg 8 (by omega))
      clear hg hxb
      have ha0 : ∀ q, ((wr.drewN q).alloc (recBox false 0 0)).cell? ⟨wr.heap.size, 0, none⟩ = some (.bool false) := fun q => (RBk.new false 0 0 (wr.drewN q)).cell.1
      have ha1 : ∀ q, ((wr.drewN q).alloc (recBox false 0 0)).cell? ⟨wr.heap.size, 1, none⟩ = some (.int .u32 0) := fun q => (RBk.new false 0 0 (wr.drewN q)).cell.2.1
      have ha2 : ∀ q, ((wr.drewN q).alloc (recBox false 0 0)).cell? ⟨wr.heap.size, 2, none⟩ = some (.int .u32 0) := fun q => (RBk.new false 0 0 (wr.drewN q)).cell.2.2
      have haf : ∀ q j, ((wr.drewN q).alloc (recBox false 0 0)).frozen? ⟨wr.heap.size, j, none⟩ = false := fun q j => (RBk.new false 0 0 (wr.drewN q)).free j
      dsimp only [recBox] at ha0 ha1 ha2 haf
      go_wp2_with fail
      go_cut [6] from 8 to 42 (fun p W1 => p = .pointer (some ⟨wr.heap.size, 0, none⟩) ∧ RBk wr.heap.size (rO ((strNums s).drop (13 * k))) (rA ((strNums s).drop (13 * k))) (rS ((strNums s).drop (13 * k))) W1 ∧ Below wr.heap.size wr W1)
      case first =>
        go_region_law (go_simp; go_at_call 64; refine (refnum_q _ (by with_reducible first | exact hz1'.out | exact hz5'.out) _).mono ?_; rintro e w5 ⟨rfl, q5, rfl⟩)
        all_goals
          generalize hW : World.setCell _ _ _ = W1
          have hN : RBk wr.heap.size (rO ((strNums s).drop (13 * k))) (rA ((strNums s).drop (13 * k))) (rS ((strNums s).drop (13 * k))) W1 := by
            rw [← hW, e1'.out, e2'.out, e3'.out]
            refine RBk.store (o := false) (a := 0) (s := 0) ?_ _ _ _
            first
              | exact RBk.new' rfl
              | exact RBk.draws (RBk.new' rfl) _
          have hBw : Below wr.heap.size wr W1 := by
            rw [← hW]
            refine below_store3 ?_ (Nat.le_refl _) _ _ _
            first
              | exact (below_drewN (Below.refl _ _) _).alloc (Nat.le_refl _) _
              | exact below_drewN ((below_drewN (Below.refl _ _) _).alloc (Nat.le_refl _) _) _
          clear hW ha0 ha1 ha2 haf e1' e2' e3'
          go_wp2_with fail
          go_meet
          exact ⟨rfl, hN, hBw⟩
      case rest =>
        obtain ⟨rfl, hN, hBw⟩ := hcut
        clear w1 w5 v1 v5 i1 i5 j1 j5 hz1' hz5' ha0 ha1 ha2 haf e1' e2' e3'
        have hcm : ((strOfNums (recB (rO ((strNums s).drop (13 * k))) (rA ((strNums s).drop (13 * k))) (rS ((strNums s).drop (13 * k))))).toList == (s.extract (13 * k) (13 * k + 13)).toList) = okR ((strNums s).drop (13 * k)) := by
          have hby : ∀ x ∈ (strNums s).drop (13 * k), 0 ≤ x ∧ x ≤ 255 := fun x hx => strNums_b s x (List.mem_of_mem_drop hx)
          rw [← strOfNums_strNums' (s.extract (13 * k) (13 * k + 13)), strNums_extract', show 13 * k + 13 - 13 * k = 13 by omega]
          rw [strEq (recB_b hbA.out.1 hbA.out.2 hbS.out.1 hbS.out.2) (fun x hx => hby x (List.mem_of_mem_take hx))]
          have h13l : decide (13 ≤ ((strNums s).drop (13 * k)).length) = true := decide_eq_true (by rw [List.length_drop, hlen'.out]; omega)
          unfold okR
          rw [h13l, Bool.true_and, decide_eq_decide]
          exact eq_comm
        have ho1 := step_append_kept ho hBw
        have hB1 := hB.trans (hBw.mono hB.size)
        have hR := hN.lt
        generalize wr.heap.size = R at hN hR ⊢
        clear hBw ho hB
        have hst : okR ((strNums s).drop (13 * k)) = true → Hid (rdJ (s.size - k) ((strNums s).drop (13 * k)) = (rO ((strNums s).drop (13 * k)), rA ((strNums s).drop (13 * k)), rS ((strNums s).drop (13 * k))) :: rdJ (s.size - (k + 1)) ((strNums s).drop (13 * (k + 1)))) := by
          intro hok
          show _ = _
          rw [rdJ_yes hok (by rw [List.length_drop, hlen'.out]; omega), List.drop_drop, show 13 * k + 13 = 13 * (k + 1) by omega, show s.size - k - 1 = s.size - (k + 1) by omega]
        have hno : okR ((strNums s).drop (13 * k)) = false → Hid (jl (strNums s) = L) := by
          intro hok
          show _ = _
          rw [hj'.out, rdJ_no hok, List.append_nil]
        generalize okR ((strNums s).drop (13 * k)) = ok at hcm hst hno
        generalize rO ((strNums s).drop (13 * k)) = xo at hcm hst hN
        generalize rA ((strNums s).drop (13 * k)) = xa at hcm hst hN hbA
        generalize rS ((strNums s).drop (13 * k)) = xs at hcm hst hN hbS
        obtain ⟨c0, c1, c2⟩ := hN.cell
        go_wp2_with fail
        refine (rWrite_any _ _ _ hbA.out.1 hbA.out.2 hbS.out.1 hbS.out.2 _).mono ?_
        rintro e W2 ⟨rfl, hb2⟩
        have ho2 := step_append_kept ho1 hb2
        have hB2 := hB1.trans (hb2.mono hB1.size)
        have hN2 := hN.later hb2
        clear c0 c1 c2 hb2 ho1 hB1 hN
        obtain ⟨c0, c1, c2⟩ := hN2.cell
        cases ok
        · have hno' := hno rfl
          clear hno hst c0 c1 c2
          have hj1 : Hid ((jl (strNums s)).length = k) := by
            show (jl (strNums s)).length = k
            rw [hno'.out]; exact hLk'.out
          have hj2 : Hid (RC (jl (strNums s)) = RC L) := by
            show RC (jl (strNums s)) = RC L
            rw [hno'.out]
          clear hno'
          go_wp2
          go_ret2
          refine ⟨u4, ?_, hB2, ?_⟩
          · rw [hj1.out]
            simp
          · rw [hj1.out, hj2.out]
            exact ho2
        · have hst' := hst rfl
          clear hno hst
          have hlt2 := ho2.lt
          go_wp2_with (at_builtin; refine wpList_append_own_at _ rfl _ _ 42 rfl w.heap.size 41 i0 (.agg #[.bool false, .int .u32 0, .int .u32 0]) 3 12 Try.underlying42 hi hz0 hz1 hz2 rfl (by decide) u4 k (RC L) rfl (ho2.alloc _) ⟨W2.heap.size, 0, none⟩ 1 1 (RC [(xo, xa, xs)]) rfl rfl (cells_rec W2 xo xa xs) (one_rec xo xa xs) ?c1 ?c2 ?c3 ?_)
          case c1 => unfold maxLen; omega
          case c2 => omega
          case c3 => have := hB2.size; simp; omega
          intro v3 W3 ho3 hg3 _ _
          have hB3 := (hB2.alloc hB2.size _).grown hg3 (by have := hB2.size; simp; omega) (fun k hk => (hlt2 k hk).1)
          clear ho2 hg3 hlt2 hB2 c0 c1 c2 hN2
          go_wp2
          go_roundw
          case rel =>
            refine ⟨k + 1, L ++ [(xo, xa, xs)], by rw [List.length_append, hLk'.out]; rfl, by omega, by go_num, ?_, hB3, ?_⟩
            · rw [RC_append]
              exact ho3
            · rw [hj'.out, hst'.out, List.append_assoc]
              rfl
          case measure => simp [intOf]; omega
    · have hd : decide (13 * (k : Int) + 13 ≤ (s.size : Int)) = false := decide_eq_false (by omega)
      have hno' : Hid (jl (strNums s) = L) := by
        show _ = _
        rw [hj'.out, rdJ_no (okR_short (by rw [List.length_drop, hlen'.out]; omega)), List.append_nil]
      have hj1 : Hid ((jl (strNums s)).length = k) := by
        show (jl (strNums s)).length = k
        rw [hno'.out]; exact hLk'.out
      have hj2 : Hid (RC (jl (strNums s)) = RC L) := by
        show RC (jl (strNums s)) = RC L
        rw [hno'.out]
      clear hno' hj'
      go_wp2
      go_ret2
      refine ⟨u4, ?_, hB, ?_⟩
      · rw [hj1.out]
        simp
      · rw [hj1.out, hj2.out]
        exact ho
end Go.Proofs.Ytppbdalkfkemgaa
