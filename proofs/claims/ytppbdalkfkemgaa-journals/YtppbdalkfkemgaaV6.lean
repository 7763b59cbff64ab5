import Derived.Test.YtppbdalkfkemgaaV4
import Derived.Test.YtppbdalkfkemgaaV5
import Derived.Test.YtppbdalkfkemgaaG1
namespace Go.Proofs.Ytppbdalkfkemgaa
open Go.RowKit

theorem jl_length (xs : List Int) : (jl xs).length ≤ xs.length := by
  have : ∀ f ys, (rdJ f ys).length ≤ f := by
    intro f
    induction f with
    | zero => intro ys; simp [rdJ]
    | succ f ih =>
      intro ys
      unfold rdJ
      split
      · simp only [List.length_cons]
        have := ih (ys.drop 13)
        omega
      · simp
  exact this _ _

set_option maxRecDepth 100000 in
set_option maxHeartbeats 4000000 in
theorem Journals_short (o : Bool) (a q : Int) (a0 : 0 ≤ a) (a1 : a < 4294967296) (q0 : 0 ≤ q) (q1 : q < 4294967296) (s : ByteArray) (hs : s.size ≤ 65536) (ao : Option Addr) (n c : Nat) (L : List (Bool × Int × Int)) (hL : L.length = n) (hn : n ≤ 4096) (hbd : RBd L) (w : World) (hA : HoldsC w ao (RC L)) :
    Calls Try.prog 5 #[recV o a q, .string s, .slice ao n c] w fun e w' => e = .returned (.bool true) ∧ Below w.heap.size w w' := by
  obtain ⟨i0, hi, hz0, hz1, hz2⟩ := info_parts info_rec
  have e0 : decide (65536 < (s.size : Int)) = false := decide_eq_false (by omega)
  have e1 : decide (4096 < (n : Int)) = false := decide_eq_false (by omega)
  have hB0 := RBk.new o a q w
  have hb0 : Below w.heap.size w (w.alloc (recBox o a q)) := (Below.refl _ _).alloc (Nat.le_refl _) _
  have hjl := jl_length (strNums s)
  rw [strNums_length] at hjl
  dsimp only [recBox] at hB0 hb0
  go_enter Try.func5, Try.ntmps5
  go_wp2_with fail
  generalize World.alloc _ _ = W0 at hB0 hb0 ⊢
  refine (WriteRecord_any o a q a0 a1 q0 q1 _).mono ?_
  rintro e W1 ⟨v, rfl, hb1, hnn, hrow⟩
  have hr1 : RestV W1 v (recB o a q) := rest_row (base := W0.heap.size + 1) hrow (recB_b a0 a1 q0 q1)
  have hB1 := hB0.later hb1
  have hbb1 := hb0.trans (hb1.mono hb0.size)
  clear hB0 hb0 hb1 hnn hrow
  obtain ⟨c0, c1, c2⟩ := hB1.cell
  go_wp2_with fail
  refine (rWrite_any o a q a0 a1 q0 q1 _).mono ?_
  rintro e W2 ⟨rfl, hb2⟩
  have hr2 := hr1.kept hb2
  have hbb2 := hbb1.trans (hb2.mono hbb1.size)
  have hcv := fun w => run_bytes_of_string (P := Try.prog) w 9 27 5 s Try.underlying9 Try.underlying27 Try.underlying5
  have hbn : Below W2.heap.size W2 (W2.drew.alloc (.cells (bytesRow s (grownCap W2 s.size 0 5)) 5 ((bytesRow s (grownCap W2 s.size 0 5)).size, (bytesRow s (grownCap W2 s.size 0 5)).size + 1))) :=
    (Below.refl W2.heap.size W2).drew.alloc (Nat.le_refl _) _
  have hR1 := rest_new s hs W2 ((bytesRow s (grownCap W2 s.size 0 5)).size, (bytesRow s (grownCap W2 s.size 0 5)).size + 1)
  clear c0 c1 c2 hB1 hb2 hr1 hbb1
  go_wp2_with fail
  clear hcv
  rw [show ∀ o : Obj, W2.drew.alloc o = (W2.alloc o).drew from fun _ => rfl] at hbn hR1
  generalize grownCap W2 s.size 0 5 = cap at hbn hR1 ⊢
  have hr3 := hr2.kept hbn
  have hbb3 := hbb2.trans (hbn.mono hbb2.size)
  clear hbn hr2 hbb2
  generalize World.drew _ = W3 at hR1 hr3 hbb3 ⊢
  refine (ReadJournal_any _ (strNums s) (by rw [strNums_length]; omega) _ hR1).mono ?_
  rintro e W4 ⟨u4', rfl, hb4, ho4⟩
  have hr4 := hr3.kept hb4
  have hbb4 := hbb3.trans (hb4.mono hbb3.size)
  clear hR1 hr3 hbb3 hb4
  go_wp2_with fail
  refine (rRead_any s (by omega) _).mono ?_
  rintro e W5 ⟨u5', rfl, hb5, ho5⟩
  have hr5 := hr4.kept hb5
  have hbb5 := hbb4.trans (hb5.mono hbb4.size)
  have ho45 := step_append_kept ho4 hb5
  clear hr4 hbb4 hb5 ho4
  obtain ⟨ao4, c4', rfl, hH4⟩ := row_form ho45
  obtain ⟨ao5, c5', rfl, hH5⟩ := row_form ho5
  clear ho45 ho5
  go_wp2_with fail
  refine (records_same ao4 ao5 (jl (strNums s)).length c4' c5' (jl (strNums s)) rfl (by omega) _ hH4 hH5).mono ?_
  rintro e W6 ⟨rfl, hb6⟩
  have hr6 := hr5.kept hb6
  have hbb6 := hbb5.trans (hb6.mono hbb5.size)
  clear hH4 hH5 hr5 hbb5 hb6
  have hbe : Below W6.heap.size W6 (W6.alloc (.cells #[] 41)) := (Below.refl _ _).alloc (Nat.le_refl _) _
  have hoe : (W6.alloc (.cells #[] 41)).ownsRow W6.heap.size 41 3 (.slice (some ⟨W6.heap.size, 0, none⟩) 0 0) 0 [] :=
    ⟨rfl, .inr ⟨W6.heap.size, 0, _, rfl, Nat.le_refl _, heap_alloc_new W6 _, Nat.le_refl _, by decide, rfl, rfl⟩⟩
  have hsrc : Src Try.prog 3 42 (.slice ao n c) n (RC L) (W6.alloc (.cells #[] 41)) :=
    ((hA.below hbb6).below hbe).src Try.underlying42 c (by rw [RC_length, hL]) (by decide) (RC_oneCell L)
  have hne : W6.heap.size ≤ (W6.alloc (.cells #[] 41)).heap.size := by simp
  go_wp2_with (at_builtin; refine wpList_append_own_src _ rfl _ _ 42 42 rfl W6.heap.size 41 i0 (.agg #[.bool false, .int .u32 0, .int .u32 0]) 3 12 Try.underlying42 hi hz0 hz1 hz2 rfl (.slice (some ⟨W6.heap.size, 0, none⟩) 0 0) 0 [] rfl hoe (by simp) (.slice ao n c) n (RC L) rfl hsrc ?c1 ?c2 hne ?_)
  case c1 => unfold maxLen; omega
  case c2 => omega
  intro v7 W7 ho7 hg7 _
  have hb7 : Below W6.heap.size W6 W7 := hbe.grown hg7 hne (fun k hk => (hoe.lt k hk).1)
  have hr7 := hr6.kept hb7
  have hbb7 := hbb6.trans (hb7.mono hbb6.size)
  clear hbe hoe hsrc hne hg7 hr6 hbb6 hb7
  obtain ⟨ao7, c7', rfl, hH7⟩ := row_form ho7
  clear ho7
  go_wp2_with fail
  refine (mCompact_any ao7 n c7' L hL (by omega) hbd _ hH7).mono ?_
  rintro e W8 ⟨v8, o8, rfl, hc8, hl8, ho8, hb8⟩
  have hr8 := hr7.kept hb8
  have hbb8 := hbb7.trans (hb8.mono hbb7.size)
  clear hH7 hr7 hbb7 hb8
  go_wp2_with fail
  refine (rCompact_any ao n c L hL (by omega) hbd _ (hA.below hbb8)).mono ?_
  rintro e W9 ⟨v9, o9, rfl, hc9, hl9, ho9, hb9⟩
  obtain rfl := hc8.unique hc9
  have hr9 := hr8.kept hb9
  have hbb9 := hbb8.trans (hb9.mono hbb8.size)
  have ho89 := step_append_kept ho8 hb9
  clear hr8 hbb8 hb9 ho8 hc8 hc9
  obtain ⟨ao8, c8', rfl, hH8⟩ := row_form ho89
  obtain ⟨ao9, c9', rfl, hH9⟩ := row_form ho9
  clear ho89 ho9
  go_wp2_with fail
  refine (records_same ao8 ao9 o8.length c8' c9' o8 rfl (by omega) _ hH8 hH9).mono ?_
  rintro e WA ⟨rfl, hbA⟩
  have hrA := hr9.kept hbA
  have hbbA := hbb9.trans (hbA.mono hbb9.size)
  have hcv := conv_rest hrA
  clear hH8 hH9 hr9 hbb9 hbA hrA
  go_wp2
  go_ret
  exact ⟨by simp, hbbA⟩
end Go.Proofs.Ytppbdalkfkemgaa
