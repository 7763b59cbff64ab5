import Derived.Test.YtpdjhcfkhblioaaF9
import Derived.Test.YtpdjhcfkhblioaaL3
namespace Go.Proofs.Ytpdjhcfkhblioaa
open Go.RowKit Go.Maps

theorem sliceT_to (g n c k : Nat) (hk : k ≤ c) (W : World) : (Instr.slice 91 (.slice (some ⟨g, 0, none⟩) n c) none (some (.int .i64 k)) none).run Try.prog W = .ok (.slice (some ⟨g, 0, none⟩) k c) W := by
  have ht : Try.prog.underlying 91 = some (.slice (Try.prog.elem 91)) := by simp [Program.elem, Try.underlying91]
  have hz : ∀ w, (Go.sizeOf (Try.prog.elem 91)).run Try.prog w = .ok 7 w := by
    intro w
    simp [go_sem, Program.elem, Try.underlying91]
  rw [run_slice_h W 91 _ _ _ ht .i64 _ (by omega) (by omega), hz]
  simp only [Result.andThen, sliced]
  rw [Nat.sub_zero, Nat.sub_zero, Int.toNat_natCast]
  split <;> simp [Addr.add]
theorem sliceT_from (g n c k : Nat) (hk : k ≤ n) : ∃ ad : Addr, (∀ W, (Instr.slice 91 (.slice (some ⟨g, 0, none⟩) n c) (some (.int .i64 k)) none none).run Try.prog W = .ok (.slice (some ad) (n - k) (c - k)) W) ∧ (k < c → ad = ⟨g, k * 7, none⟩) := by
  have ht : Try.prog.underlying 91 = some (.slice (Try.prog.elem 91)) := by simp [Program.elem, Try.underlying91]
  have hz : ∀ w, (Go.sizeOf (Try.prog.elem 91)).run Try.prog w = .ok 7 w := by
    intro w
    simp [go_sem, Program.elem, Try.underlying91]
  refine ⟨if c = k then ⟨g, 0, none⟩ else ⟨g, k * 7, none⟩, fun W => ?_, fun h => by rw [if_neg (by omega)]⟩
  rw [run_slice_l W 91 _ _ _ ht .i64 _ (by omega) (by omega), hz]
  simp only [Result.andThen, sliced]
  rw [Int.toNat_natCast]
  split <;> simp [Addr.add_lit]
theorem sliceT_nil (i : Option Value) (j : Option Value) (hi : i = none ∨ i = some (.int .i64 0)) (hj : j = none ∨ j = some (.int .i64 0)) (W : World) : (Instr.slice 91 (.slice none 0 0) i j none).run Try.prog W = .ok (.slice none 0 0) W := by
  rcases hi with rfl | rfl <;> rcases hj with rfl | rfl <;> kernel_rfl
theorem appT_nil (W : World) : (Builtin.append_ #[91, 91] 91 #[.slice none 0 0, .slice none 0 0]).run Try.prog W = .ok (.slice none 0 0) W := by kernel_rfl
theorem srcT_nil (W : World) : Src Try.prog 7 91 (.slice none 0 0) 0 [] W := Src.ofNil W Try.underlying91 0
theorem RtC_drop : ∀ (h : List (Rt × Value)) (m : Nat), RtC (h.drop m) = (RtC h).drop (m * 7)
  | [], m => by simp [RtC]
  | a :: h, 0 => by simp
  | a :: h, m + 1 => by
    have ih := RtC_drop h m
    simp only [RtC, List.drop_succ_cons, List.flatMap_cons] at ih ⊢
    rw [ih]
    simp [rtC, show (m + 1) * 7 = m * 7 + 1 + 1 + 1 + 1 + 1 + 1 + 1 by omega]
theorem RtC_take : ∀ (h : List (Rt × Value)) (m : Nat), RtC (h.take m) = (RtC h).take (m * 7)
  | [], m => by simp [RtC]
  | a :: h, 0 => by simp [RtC]
  | a :: h, m + 1 => by
    have ih := RtC_take h m
    simp only [RtC, List.take_succ_cons, List.flatMap_cons] at ih ⊢
    rw [ih]
    simp [rtC, show (m + 1) * 7 = m * 7 + 1 + 1 + 1 + 1 + 1 + 1 + 1 by omega]
theorem RM.ones {me : Int} {T : Nat} {v : Value} {L : List (Rt × Value)} {W : World} (h : RM me T v L W) {L' : List (Rt × Value)} (hs : ∀ p ∈ L', p ∈ L) : ∀ u ∈ RtC L', u.oneCell' = true := by
  intro u hu
  simp only [RtC, List.mem_flatMap] at hu
  obtain ⟨p, hp, hu⟩ := hu
  obtain ⟨a, c, hv, _⟩ := row_form (h.bef p (hs p hp))
  simp only [rtC, List.mem_cons, List.not_mem_nil, or_false] at hu
  rcases hu with rfl | rfl | rfl | rfl | rfl | rfl | rfl <;> first | rfl | (rw [hv]; rfl)
/-- A line more. -/
theorem RM.ins {me : Int} {T : Nat} {v v' : Value} {L : List (Rt × Value)} {S : Nat → Prop} {w W' : World} (h : RM me T v L w) (hS : ∀ k, RIn T v L k → S k) {k : Nat} {x : Rt} (hk : k = pos (L.map (·.1)) x.dest) (h8 : L.length < 8) (hx : x.Ok) (hb : x.bef = []) (hno : lineOf (L.map (·.1)) x.dest = none)
    (hblk : W'.heap[T]? = some (.cells #[.int .u32 me, v'] 94)) (hrow : W'.ownsRow w.heap.size 79 7 v' (k + 1 + (L.length - k)) (RtC (L.take k) ++ (RtC [(x, .slice none 0 0)] ++ RtC (L.drop k))))
    (hk' : ∀ q, q < w.heap.size → q ≠ T → W'.heap[q]? = w.heap[q]?) (hos : W'.os = w.os) (htp : W'.tape = w.tape) (hou : W'.output = w.output) (hsz : w.heap.size ≤ W'.heap.size) :
    RTab me T (ext S w.heap.size W'.heap.size) (insL (L.map (·.1)) x) W' ∧ Fx S w W' := by
  have hkl : k ≤ L.length := by
    have := pos_le (L.map (·.1)) x.dest
    rw [List.length_map] at this
    omega
  have hmap : (L.take k ++ (x, Value.slice none 0 0) :: L.drop k).map (·.1) = insL (L.map (·.1)) x := by
    unfold insL
    rw [List.map_append, List.map_cons, List.map_take, List.map_drop, ← hk]
  have hmem : ∀ p ∈ L.take k ++ (x, Value.slice none 0 0) :: L.drop k, p = (x, .slice none 0 0) ∨ p ∈ L := by
    intro p hp
    rcases List.mem_append.1 hp with hp | hp
    · exact .inr (List.mem_of_mem_take hp)
    · rcases List.mem_cons.1 hp with hp | hp
      · exact .inl hp
      · exact .inr (List.mem_of_mem_drop hp)
  have hlen : (L.take k ++ (x, Value.slice none 0 0) :: L.drop k).length = k + 1 + (L.length - k) := by
    rw [List.length_append, List.length_cons, List.length_take, List.length_drop, Nat.min_eq_left hkl]
    omega
  have hTS : S T := hS _ (.inl rfl)
  refine ⟨⟨v', L.take k ++ (x, .slice none 0 0) :: L.drop k, hmap, ⟨hblk, ?_, ?_, ?_, ?_, ?_⟩, ?_⟩, ⟨hos, htp, hou, hsz, fun q hq hn => hk' q hq (fun e => hn (by rw [e]; exact hTS))⟩⟩
  · rw [hlen, RtC_append, show ((x, Value.slice none 0 0) :: L.drop k) = [(x, Value.slice none 0 0)] ++ L.drop k from rfl, RtC_append]
    exact ownsRow_base_a hrow (Nat.zero_le _)
  · intro p hp
    rcases hmem p hp with rfl | hp
    · dsimp only
      rw [hb]
      exact nil_row _
    · have hr := h.bef p hp
      exact row_at hr fun q hq => hk' q (hr.lt q hq).2 (fun e => row_not hr h.blk (fun c e => by cases e) (by rw [hq, e]))
  · rw [hmap]
    exact insL_asc h.asc hno
  · intro p hp
    rcases hmem p hp with rfl | hp
    · exact hx
    · exact h.ok p hp
  · rw [hlen]
    omega
  · rintro q (rfl | hq | ⟨p, hp, hq⟩)
    · exact .inl hTS
    · exact .inr (hrow.lt q hq)
    · rcases hmem p hp with rfl | hp
      · cases hq
      · exact .inl (hS _ (.inr (.inr ⟨p, hp, hq⟩)))

set_option maxRecDepth 100000 in
set_option maxHeartbeats 4000000 in
theorem add_some {me : Int} {T : Nat} {L : List (Rt × Value)} {S : Nat → Prop} {w : World} {g cap : Nat} (hM : RM me T (.slice (some ⟨g, 0, none⟩) L.length cap) L w) (hS : ∀ k, RIn T (.slice (some ⟨g, 0, none⟩) L.length cap) L k → S k) (x : Rt) (hx : x.Ok) (hb : x.bef = []) (hno : lineOf (L.map (·.1)) x.dest = none) (h8 : L.length < 8) :
    Calls Try.prog 81 #[.pointer (some ⟨T, 0, none⟩), .int .i64 (pos (L.map (·.1)) x.dest), rtV x (.slice none 0 0)] w fun e w' => e = .returned (.tuple #[]) ∧ RTab me T (ext S w.heap.size w'.heap.size) (insL (L.map (·.1)) x) w' ∧ Fx S w w' := by
  obtain ⟨i0, hi, hz0, hz1, hz2⟩ := info_parts info_rt
  have hb0 : Below w.heap.size w (w.alloc (rtBox x (.slice none 0 0))) := (Below.refl _ _).alloc (Nat.le_refl _) _
  have hM1 := hM.later hb0
  have hN := LnB.new x (.slice none 0 0) w
  have hle : pos (L.map (·.1)) x.dest ≤ L.length := by
    have := pos_le (L.map (·.1)) x.dest
    rw [List.length_map] at this
    omega
  have hTl := hM.lt (.inl rfl)
  have hgl := (hM.row.lt g rfl).2
  have hfinI := fun (W' : World) (v' : Value) a b c d e f g => (show Hid _ from RM.ins (W' := W') (v' := v') hM hS rfl h8 hx hb hno a b c d e f g)
  generalize hkk : pos (L.map (·.1)) x.dest = k at hfinI hle ⊢
  have hcapn : L.length ≤ cap := by
    rcases hM.row.2 with ⟨he, _⟩ | ⟨_, _, _, he, _, _, k3, _⟩
    · cases he
    · cases he; exact k3
  have hs1 := sliceT_to g L.length cap k (by omega)
  obtain ⟨ad, hs2, had⟩ := sliceT_from g L.length cap k hle
  have hlt1 := RtC_length (L.take k)
  have hld := RtC_length (L.drop k)
  rw [List.length_take, Nat.min_eq_left hle] at hlt1
  rw [List.length_drop] at hld
  have hone1 := (show Hid _ from hM.ones (L' := L.take k) (fun p hp => List.mem_of_mem_take hp))
  have hone2 := (show Hid _ from hM.ones (L' := L.drop k) (fun p hp => List.mem_of_mem_drop hp))
  have hcT : Hid (∀ W : World, W.heap[g]? = w.heap[g]? → ∀ (j : Nat) (u : Value), (RtC (L.take k))[j]? = some u → W.cell? ((⟨g, 0, none⟩ : Addr).add j) = some u) := by
    intro W hW j u hj
    rw [RtC_take, List.getElem?_take] at hj
    split at hj
    · have := (World.cell?_of_block (a := ⟨g, j, none⟩) hW).trans ((hM.row.cellAt j (by omega)).trans hj)
      rw [Addr.add_lit, Nat.zero_add]
      exact this
    · cases hj
  have hcD : Hid (∀ W : World, W.heap[g]? = w.heap[g]? → ∀ (j : Nat) (u : Value), (RtC (L.drop k))[j]? = some u → W.cell? (ad.add j) = some u) := by
    intro W hW j u hj
    have hjl : j < (RtC (L.drop k)).length := by
      rcases Nat.lt_or_ge j (RtC (L.drop k)).length with a | a
      · exact a
      · rw [List.getElem?_eq_none a] at hj; cases hj
    rw [hld] at hjl
    have hlt2 : k < L.length := by
      rcases Nat.lt_or_ge k L.length with a | a
      · exact a
      · rw [show L.length - k = 0 by omega] at hjl; omega
    rw [had (by omega)]
    rw [RtC_drop, List.getElem?_drop] at hj
    have hlt3 : k * 7 + j < L.length * 7 := by
      rw [Nat.sub_mul] at hjl; omega
    rw [Addr.add_lit]
    exact (World.cell?_of_block (a := ⟨g, k * 7 + j, none⟩) hW).trans ((hM.row.cellAt (k * 7 + j) hlt3).trans hj)
  have hk1 : Hid (0 + k ≤ maxLen) := by show _ ≤ _; unfold maxLen; omega
  have hk2 : Hid ((0 + k) * 56 ≤ 140737488355328) := by show _ ≤ _; omega
  have hk3 : Hid (k + 1 + (L.length - k) ≤ maxLen) := by show _ ≤ _; unfold maxLen; omega
  have hk4 : Hid ((k + 1 + (L.length - k)) * 56 ≤ 140737488355328) := by show _ ≤ _; omega
  have hk5 : Hid (k + 1 ≤ maxLen) := by show _ ≤ _; unfold maxLen; omega
  have hk6 : Hid ((k + 1) * 56 ≤ 140737488355328) := by show _ ≤ _; omega
  have hkL : (k : Int) ≤ (L.length : Int) := by omega
  have hMh := (show Hid _ from hM)
  clear hS hno hM had hkk
  dsimp only [rtBox] at hb0 hM1 hN
  go_enter Try.func81, Try.ntmps81
  go_upto_region 2 with (fail)
  generalize World.alloc _ _ = W1 at hb0 hM1 hN ⊢
  have hs0 := hb0.size
  obtain ⟨c0, c1⟩ := hM1.cell
  go_wp2_with (at_builtin; refine wpList_append_own_at _ rfl _ _ 91 rfl w.heap.size 79 i0 (.agg #[.int .u32 0, .int .u32 0, .int .i64 0, .int .u32 0, .bool false, .int .u64 0, .slice none 0 0]) 7 56 Try.underlying91 hi hz0 hz1 hz2 rfl (by decide) (.slice none 0 0) 0 [] rfl ⟨rfl, .inl ⟨rfl, rfl⟩⟩ ⟨g, 0, none⟩ k cap (RtC (L.take k)) rfl hlt1 (hcT.out _ (hb0.block g hgl)) hone1.out hk1.out hk2.out hs0 ?_)
  intro v1 w1 ho1 hg1 _ _
  have hb1 : Below w.heap.size w w1 := hb0.grown hg1 hs0 (fun k e => by cases e)
  have hN1 := hN.block (hg1.block _ hN.lt (by simp [Value.ownBlock]))
  have hw1 := hb1.size
  have hlt2 := ho1.lt
  clear hs1 hcT hM1 hg1 hk1 hk2 c0 c1 hone1 hN hb0 hs0
  obtain ⟨n0, n1, n2, n3, n4, n5, n6⟩ := hN1.cell
  go_wp2_with (at_builtin; refine wpList_append_own_at _ rfl _ _ 91 rfl w.heap.size 79 i0 (.agg #[.int .u32 0, .int .u32 0, .int .i64 0, .int .u32 0, .bool false, .int .u64 0, .slice none 0 0]) 7 56 Try.underlying91 hi hz0 hz1 hz2 rfl (by decide) v1 k (RtC (L.take k)) rfl (ho1.alloc _) ⟨w1.heap.size, 0, none⟩ 1 1 (RtC [(x, .slice none 0 0)]) rfl rfl (cells_rt w1 x (.slice none 0 0)) (one_rt x none 0 0) hk5.out hk6.out ?c3 ?_)
  case c3 => simp; omega
  intro v2 w2 ho2 hg2 hn2 _
  have hv2 : v2 ≠ .slice none 0 0 := hn2
  have hb2 : Below w.heap.size w w2 := (hb1.alloc hb1.size _).grown hg2 (by simp; omega) (fun k e => (hlt2 k e).1)
  have hM2 := hMh.out.later hb2
  have hw2 := hb2.size
  have hlt3 := ho2.lt
  have hsrc : Src Try.prog 7 91 (.slice (some ad) (L.length - k) (cap - k)) (L.length - k) (RtC (L.drop k)) w2 := Src.ofSlice w2 Try.underlying91 ad (L.length - k) (cap - k) (RtC (L.drop k)) hld (hcD.out _ (hb2.block g hgl)) hone2.out
  obtain ⟨c0, c1⟩ := hM2.cell
  clear hcD hN1 hb1 ho1 hg2 hn2 n0 n1 n2 n3 n4 n5 n6 hlt2 hk5 hk6 hM2 hone2
  go_wp2_with (at_builtin; refine wpList_append_own_src _ rfl _ _ 91 91 rfl w.heap.size 79 i0 (.agg #[.int .u32 0, .int .u32 0, .int .i64 0, .int .u32 0, .bool false, .int .u64 0, .slice none 0 0]) 7 56 Try.underlying91 hi hz0 hz1 hz2 rfl v2 (k + 1) _ rfl ho2 hv2 (.slice (some ad) (L.length - k) (cap - k)) (L.length - k) (RtC (L.drop k)) rfl hsrc hk3.out hk4.out hw2 ?_)
  intro v3 w3 ho3 hg3 hv3
  obtain ⟨ao3, cp3, rfl, _⟩ := row_form ho3
  have hb3 : Below w.heap.size w w3 := hb2.grown hg3 hw2 (fun k e => (hlt3 k e).1)
  have hM3 := hMh.out.later hb3
  obtain ⟨c0, c1⟩ := hM3.cell
  have f1 := hM3.free 1
  have hw3 := hb3.size
  have hlt4 := ho3.lt
  have hfin := hfinI (w3.setCell ⟨T, 1, none⟩ (.slice ao3 (k + 1 + (L.length - k)) cp3)) (.slice ao3 (k + 1 + (L.length - k)) cp3) (by have := hM3.blk; simp [World.setCell, Array.getElem?_modify, this]) (by
    exact row_at ho3 fun q hq => Below.heap_setCell w3 _ _ q (fun e => by have h1 := (hlt4 q hq).1; rw [e] at h1; exact absurd h1 (Nat.not_le.2 hTl))) (fun q hq hqT => (Below.heap_setCell w3 _ _ q hqT).trans (hb3.block q hq)) hb3.os hb3.tape hb3.output (by simpa using hw3)
  clear hfinI ho3 hg3 hb3 hM3 hlt4 hMh ho2 hs2 hsrc hk3 hk4 hlt3
  go_wp2
  go_returns
  exact ⟨rfl, hfin.out⟩

set_option maxRecDepth 100000 in
set_option maxHeartbeats 4000000 in
theorem add_nil {me : Int} {T : Nat} {S : Nat → Prop} {w : World} (hM : RM me T (.slice none 0 0) [] w) (hS : ∀ k, RIn T (.slice none 0 0) [] k → S k) (x : Rt) (hx : x.Ok) (hb : x.bef = []) :
    Calls Try.prog 81 #[.pointer (some ⟨T, 0, none⟩), .int .i64 0, rtV x (.slice none 0 0)] w fun e w' => e = .returned (.tuple #[]) ∧ RTab me T (ext S w.heap.size w'.heap.size) (insL [] x) w' ∧ Fx S w w' := by
  obtain ⟨i0, hi, hz0, hz1, hz2⟩ := info_parts info_rt
  have hb0 : Below w.heap.size w (w.alloc (rtBox x (.slice none 0 0))) := (Below.refl _ _).alloc (Nat.le_refl _) _
  have hM1 := hM.later hb0
  have hN := LnB.new x (.slice none 0 0) w
  have hTl := hM.lt (.inl rfl)
  have hfinI := fun (W' : World) (v' : Value) a b c d e f g => (show Hid _ from RM.ins (W' := W') (v' := v') (k := 0) hM hS rfl (by decide) hx hb rfl a b c d e f g)
  have hk5 : Hid (0 + 1 ≤ maxLen) := by show _ ≤ _; unfold maxLen; omega
  have hk6 : Hid ((0 + 1) * 56 ≤ 140737488355328) := by show _ ≤ _; omega
  have hk3 : Hid (0 + 1 + 0 ≤ maxLen) := by show _ ≤ _; unfold maxLen; omega
  have hk4 : Hid ((0 + 1 + 0) * 56 ≤ 140737488355328) := by show _ ≤ _; omega
  have hs1 := sliceT_nil none (some (.int .i64 0)) (.inl rfl) (.inr rfl)
  have hs2 := sliceT_nil (some (.int .i64 0)) none (.inr rfl) (.inl rfl)
  have hap := appT_nil
  have hMh := (show Hid _ from hM)
  clear hS hM
  dsimp only [rtBox] at hb0 hM1 hN
  go_enter Try.func81, Try.ntmps81
  go_upto_region 2 with (fail)
  generalize World.alloc _ _ = W1 at hb0 hM1 hN ⊢
  have hs0 := hb0.size
  obtain ⟨c0, c1⟩ := hM1.cell
  obtain ⟨n0, n1, n2, n3, n4, n5, n6⟩ := hN.cell
  clear hN hM1
  go_wp2_with (at_builtin; refine wpList_append_own_at _ rfl _ _ 91 rfl w.heap.size 79 i0 (.agg #[.int .u32 0, .int .u32 0, .int .i64 0, .int .u32 0, .bool false, .int .u64 0, .slice none 0 0]) 7 56 Try.underlying91 hi hz0 hz1 hz2 rfl (by decide) (.slice none 0 0) 0 [] rfl ⟨rfl, .inl ⟨rfl, rfl⟩⟩ ⟨W1.heap.size, 0, none⟩ 1 1 (RtC [(x, .slice none 0 0)]) rfl rfl (cells_rt W1 x (.slice none 0 0)) (one_rt x none 0 0) hk5.out hk6.out ?c3 ?_)
  case c3 => simp; omega
  intro v2 w2 ho2 hg2 hn2 _
  have hv2 : v2 ≠ .slice none 0 0 := hn2
  have hb2 : Below w.heap.size w w2 := (hb0.alloc hb0.size _).grown hg2 (by simp; omega) (fun k e => by cases e)
  have hM2 := hMh.out.later hb2
  have hw2 := hb2.size
  have hlt3 := ho2.lt
  clear c0 c1
  obtain ⟨c0, c1⟩ := hM2.cell
  clear hb0 hg2 hn2 n0 n1 n2 n3 n4 n5 n6 hk5 hk6 hM2
  go_wp2_with (at_builtin; refine wpList_append_own_src _ rfl _ _ 91 91 rfl w.heap.size 79 i0 (.agg #[.int .u32 0, .int .u32 0, .int .i64 0, .int .u32 0, .bool false, .int .u64 0, .slice none 0 0]) 7 56 Try.underlying91 hi hz0 hz1 hz2 rfl v2 (0 + 1) _ rfl ho2 hv2 (.slice none 0 0) 0 [] rfl (srcT_nil _) hk3.out hk4.out hw2 ?_)
  intro v3 w3 ho3 hg3 hv3
  obtain ⟨ao3, cp3, rfl, _⟩ := row_form ho3
  have hb3 : Below w.heap.size w w3 := hb2.grown hg3 hw2 (fun k e => (hlt3 k e).1)
  have hM3 := hMh.out.later hb3
  obtain ⟨c0, c1⟩ := hM3.cell
  have f1 := hM3.free 1
  have hw3 := hb3.size
  have hlt4 := ho3.lt
  have hfin := hfinI (w3.setCell ⟨T, 1, none⟩ (.slice ao3 (0 + 1 + 0) cp3)) (.slice ao3 (0 + 1 + 0) cp3) (by have := hM3.blk; simp [World.setCell, Array.getElem?_modify, this]) (by
    exact row_at ho3 fun q hq => Below.heap_setCell w3 _ _ q (fun e => by have h1 := (hlt4 q hq).1; rw [e] at h1; exact absurd h1 (Nat.not_le.2 hTl))) (fun q hq hqT => (Below.heap_setCell w3 _ _ q hqT).trans (hb3.block q hq)) hb3.os hb3.tape hb3.output (by simpa using hw3)
  clear hfinI ho3 hg3 hb3 hM3 hlt4 hMh ho2 hs2 hk3 hk4 hlt3
  go_wp2
  go_returns
  exact ⟨rfl, hfin.out⟩
theorem add_any {me : Int} {T : Nat} {v : Value} {L : List (Rt × Value)} {S : Nat → Prop} {w : World} (hM : RM me T v L w) (hS : ∀ k, RIn T v L k → S k) (x : Rt) (hx : x.Ok) (hb : x.bef = []) (hno : lineOf (L.map (·.1)) x.dest = none) (h8 : L.length < 8) :
    Calls Try.prog 81 #[.pointer (some ⟨T, 0, none⟩), .int .i64 (pos (L.map (·.1)) x.dest), rtV x (.slice none 0 0)] w fun e w' => e = .returned (.tuple #[]) ∧ RTab me T (ext S w.heap.size w'.heap.size) (insL (L.map (·.1)) x) w' ∧ Fx S w w' := by
  rcases hM.row.2 with ⟨rfl, h0⟩ | ⟨g, cap, cur, rfl, rest⟩
  · have hn := hM.row.1
    obtain rfl : L = [] := by
      obtain ⟨a, c, hv, _⟩ := row_form hM.row
      cases L with
      | nil => rfl
      | cons a L => cases hv
    exact add_nil hM hS x hx hb
  · exact add_some hM hS x hx hb hno h8
end Go.Proofs.Ytpdjhcfkhblioaa
