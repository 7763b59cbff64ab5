import Derived.Test.YtpdjhcfkhblioaaV1
import Derived.Test.YtpdjhcfkhblioaaK4
import Derived.Shelf.SlIter.Collect
import Derived.Maps.AppendAt
namespace Go.Proofs.Ytpdjhcfkhblioaa
open Go.RowKit

theorem RC_drop : ∀ (h : List (Bool × Int × Int)) (m : Nat), RC (h.drop m) = (RC h).drop (m * 3)
  | [], m => by simp [RC]
  | a :: h, 0 => by simp [RC]
  | a :: h, m + 1 => by
    have ih := RC_drop h m
    simp only [RC, List.drop_succ_cons, List.flatMap_cons] at ih ⊢
    rw [ih]
    simp [show (m + 1) * 3 = m * 3 + 1 + 1 + 1 by omega]
theorem RC_take : ∀ (h : List (Bool × Int × Int)) (m : Nat), RC (h.take m) = (RC h).take (m * 3)
  | [], m => by simp [RC]
  | a :: h, 0 => by simp [RC]
  | a :: h, m + 1 => by
    have ih := RC_take h m
    simp only [RC, List.take_succ_cons, List.flatMap_cons] at ih ⊢
    rw [ih]
    simp [show (m + 1) * 3 = m * 3 + 1 + 1 + 1 by omega]
theorem RC_set : ∀ (h : List (Bool × Int × Int)) (m : Nat) (x : Bool × Int × Int) (s : Int), h[m]? = some x → (RC h).set (m * 3 + 2) (.int .u32 s) = RC (h.set m (x.1, x.2.1, s))
  | [], m, x, s, e => by simp at e
  | a :: h, 0, x, s, e => by
    simp only [List.getElem?_cons_zero, Option.some.injEq] at e
    subst e
    simp [RC]
  | a :: h, m + 1, x, s, e => by
    have ih := RC_set h m x s (by simpa using e)
    simp only [RC, List.set_cons_succ, List.flatMap_cons] at ih ⊢
    rw [← ih]
    simp [show (m + 1) * 3 + 2 = m * 3 + 2 + 1 + 1 + 1 by omega]
theorem sliceR_to (g n c k : Nat) (hk : k ≤ c) (W : World) : (Instr.slice 42 (.slice (some ⟨g, 0, none⟩) n c) none (some (.int .i64 k)) none).run Try.prog W = .ok (.slice (some ⟨g, 0, none⟩) k c) W := by
  have ht : Try.prog.underlying 42 = some (.slice (Try.prog.elem 42)) := by simp [Program.elem, Try.underlying42]
  have hz : ∀ w, (Go.sizeOf (Try.prog.elem 42)).run Try.prog w = .ok 3 w := by
    intro w
    simp [go_sem, Program.elem, Try.underlying42]
  rw [run_slice_h W 42 _ _ _ ht .i64 _ (by omega) (by omega), hz]
  simp only [Result.andThen, sliced]
  rw [Nat.sub_zero, Nat.sub_zero, Int.toNat_natCast]
  split <;> simp [Addr.add]
theorem sliceR_from (g n c k : Nat) (hk : k ≤ n) : ∃ ad : Addr, (∀ W, (Instr.slice 42 (.slice (some ⟨g, 0, none⟩) n c) (some (.int .i64 k)) none none).run Try.prog W = .ok (.slice (some ad) (n - k) (c - k)) W) ∧ (k < c → ad = ⟨g, k * 3, none⟩) := by
  have ht : Try.prog.underlying 42 = some (.slice (Try.prog.elem 42)) := by simp [Program.elem, Try.underlying42]
  have hz : ∀ w, (Go.sizeOf (Try.prog.elem 42)).run Try.prog w = .ok 3 w := by
    intro w
    simp [go_sem, Program.elem, Try.underlying42]
  refine ⟨if c = k then ⟨g, 0, none⟩ else ⟨g, k * 3, none⟩, fun W => ?_, fun h => by rw [if_neg (by omega)]⟩
  rw [run_slice_l W 42 _ _ _ ht .i64 _ (by omega) (by omega), hz]
  simp only [Result.andThen, sliced]
  rw [Int.toNat_natCast]
  split <;> simp [Addr.add_lit]
theorem sliceR_nil (i : Option Value) (j : Option Value) (hi : i = none ∨ i = some (.int .i64 0)) (hj : j = none ∨ j = some (.int .i64 0)) (W : World) : (Instr.slice 42 (.slice none 0 0) i j none).run Try.prog W = .ok (.slice none 0 0) W := by
  rcases hi with rfl | rfl <;> rcases hj with rfl | rfl <;> kernel_rfl
theorem appR_nil (W : World) : (Builtin.append_ #[42, 42] 42 #[.slice none 0 0, .slice none 0 0]).run Try.prog W = .ok (.slice none 0 0) W := by kernel_rfl
theorem set_self {α : Type} {l : List α} {k : Nat} {x : α} (h : l[k]? = some x) : l.set k x = l := by
  obtain ⟨hk, rfl⟩ := List.getElem?_eq_some_iff.1 h
  exact List.set_getElem_self hk
theorem RBk.setA {B : Nat} {o : Bool} {a s : Int} {W : World} (h : RBk B o a s W) (a' : Int) : RBk B o a' s (W.setCell ⟨B, 1, none⟩ (.int .u32 a')) := by
  unfold RBk at h ⊢
  simp [World.setCell, Array.getElem?_modify, h]
theorem RBk.kept {B : Nat} {o : Bool} {a s : Int} {W W' : World} {r : Option Nat} (h : RBk B o a s W) (hg : W.grownBy W' r) (hr : some B ≠ r) : RBk B o a s W' := (hg.block B h.lt hr).trans h
theorem put_match {out : List (Bool × Int × Int)} {r x : Bool × Int × Int} {k : Nat} (h : putL out r = out.take k ++ putL (out.drop k) r) (hx : out[k]? = some x) (h1 : x.1 = r.1) (h2 : x.2.1 = r.2.1) :
    putL out r = out.set k (x.1, x.2.1, max r.2.2 x.2.2) := by
  obtain ⟨hk, rfl⟩ := List.getElem?_eq_some_iff.1 hx
  rw [h, List.set_eq_take_append_cons_drop, if_pos hk, List.drop_eq_getElem_cons hk]
  simp only [putL, h1, h2, and_self, if_true]
theorem put_break {out : List (Bool × Int × Int)} {r x : Bool × Int × Int} {k : Nat} (h : putL out r = out.take k ++ putL (out.drop k) r) (hx : out[k]? = some x) (h1 : ¬ (x.1 = r.1 ∧ x.2.1 = r.2.1)) (h2 : r.1 = true ∨ (x.1 = false ∧ x.2.1 > r.2.1)) :
    putL out r = out.take k ++ r :: out.drop k := by
  obtain ⟨hk, rfl⟩ := List.getElem?_eq_some_iff.1 hx
  rw [h, List.drop_eq_getElem_cons hk]
  simp only [putL, h1, h2, if_true, if_false]
theorem put_on {out : List (Bool × Int × Int)} {r x : Bool × Int × Int} {k : Nat} (h : putL out r = out.take k ++ putL (out.drop k) r) (hx : out[k]? = some x) (h1 : ¬ (x.1 = r.1 ∧ x.2.1 = r.2.1)) (h2 : ¬ (r.1 = true ∨ (x.1 = false ∧ x.2.1 > r.2.1))) :
    putL out r = out.take (k + 1) ++ putL (out.drop (k + 1)) r := by
  obtain ⟨hk, rfl⟩ := List.getElem?_eq_some_iff.1 hx
  conv => lhs; rw [h, List.drop_eq_getElem_cons hk]
  simp only [putL, h1, h2, if_false]
  rw [List.take_succ_eq_append_getElem hk, List.append_assoc]
  rfl
theorem put_end {out : List (Bool × Int × Int)} {r : Bool × Int × Int} {k : Nat} (h : putL out r = out.take k ++ putL (out.drop k) r) (hk : out.length ≤ k) :
    putL out r = out.take k ++ r :: out.drop k := by
  rw [h, List.drop_eq_nil_of_le hk]
  rfl
/-- What put hands back. -/
def PutP (base : Nat) (g : Option Nat) (T : List (Bool × Int × Int)) (w : World) (e : Ending) (w' : World) : Prop :=
  ∃ v', e = .returned v' ∧ w'.ownsRow base 41 3 v' T.length (RC T) ∧ w.grownBy w' g
theorem below_grown {A B : World} (h : Below A.heap.size A B) (r : Option Nat) : A.grownBy B r := ⟨h.os, h.tape, h.output, h.size, fun k hk _ => h.block k hk⟩

theorem srcR_nil (W : World) : Src Try.prog 3 42 (.slice none 0 0) 0 [] W := Src.ofNil W Try.underlying42 0

set_option maxRecDepth 100000 in
set_option maxHeartbeats 4000000 in
theorem put_nil_f (base : Nat) (a s : Int) (w : World) (hbs : base ≤ w.heap.size) :
    Calls Try.prog 70 #[.slice none 0 0, recV false a s] w (PutP base none [(false, a, s)] w) := by
  obtain ⟨i0, hi, hz0, hz1, hz2⟩ := info_parts info_rec
  have hB := RBk.new false a s w
  have hbl : Below w.heap.size w (w.alloc (recBox false a s)) := (Below.refl _ _).alloc (Nat.le_refl _) _
  dsimp only [recBox] at hB hbl
  go_enter Try.func70, Try.ntmps70
  go_wp2_with fail
  generalize World.alloc _ _ = W0 at hB hbl ⊢
  go_loopw [5] (fun i wr => i = .int .i64 0 ∧ wr = W0) (fun _ _ => 0)
  case atStart => exact ⟨rfl, rfl⟩
  case round =>
    obtain ⟨rfl, rfl⟩ := hrel
    obtain ⟨c0, c1, c2⟩ := hB.cell
    have hs1 := sliceR_nil none (some (.int .i64 0)) (.inl rfl) (.inr rfl)
    have hs2 := sliceR_nil (some (.int .i64 0)) none (.inr rfl) (.inl rfl)
    have hs0 := appR_nil
    have hlw := hbl.size
    go_wp2_with (at_builtin; refine wpList_append_own_at _ rfl _ _ 42 rfl w.heap.size 41 i0 (.agg #[.bool false, .int .u32 0, .int .u32 0]) 3 12 Try.underlying42 hi hz0 hz1 hz2 rfl (by decide) (.slice none 0 0) 0 [] rfl ⟨rfl, .inl ⟨rfl, rfl⟩⟩ ⟨wr.heap.size, 0, none⟩ 1 1 (RC [(false, a, s)]) rfl rfl (cells_rec wr false a s) (one_rec false a s) (by decide) (by decide) ?c3 ?_)
    case c3 => simp; omega
    intro v2 w2 ho2 hg2 hn2 _
    have hv2 : v2 ≠ .slice none 0 0 := hn2
    have hl2 := hg2.size
    have hb2 : Below w.heap.size w w2 := (hbl.alloc hbl.size _).grown hg2 (by have := hbl.size; simp; omega) (fun k e => by simp [Value.ownBlock] at e)
    have hw2 := hb2.size
    clear hg2 hn2 hs1 hs0 hl2 c0 c1 c2 hB hbl
    go_wp2_with (at_builtin; refine wpList_append_own_src _ rfl _ _ 42 42 rfl w.heap.size 41 i0 (.agg #[.bool false, .int .u32 0, .int .u32 0]) 3 12 Try.underlying42 hi hz0 hz1 hz2 rfl v2 1 _ rfl ho2 hv2 (.slice none 0 0) 0 [] rfl (srcR_nil _) (by decide) (by decide) hw2 ?_)
    intro v3 w3 ho3 hg3 hv3
    have hlt3 := ho2.lt
    have hb3 : w.grownBy w3 none := ⟨hg3.os.trans hb2.os, hg3.tape.trans hb2.tape, hg3.output.trans hb2.output, Nat.le_trans hb2.size hg3.size, fun k hk _ => (hg3.block k (Nat.lt_of_lt_of_le hk hb2.size) (fun e => by have := (hlt3 k e.symm).1; omega)).trans (hb2.block k hk)⟩
    clear hs2 ho2 hg3
    go_wp2
    go_ret
    exact ⟨v3, rfl, ownsRow_base_a (by simpa using ho3) hbs, hb3⟩

set_option maxRecDepth 100000 in
set_option maxHeartbeats 4000000 in
theorem put_nil_t (base : Nat) (a s : Int) (w : World) (hbs : base ≤ w.heap.size) :
    Calls Try.prog 70 #[.slice none 0 0, recV true a s] w (PutP base none [(true, 0, s)] w) := by
  obtain ⟨i0, hi, hz0, hz1, hz2⟩ := info_parts info_rec
  have hB := RBk.new true 0 s w
  have hbl : Below w.heap.size w (w.alloc (recBox true 0 s)) := (Below.refl _ _).alloc (Nat.le_refl _) _
  dsimp only [recBox] at hB hbl
  go_enter Try.func70, Try.ntmps70
  go_wp2_with fail
  generalize World.alloc _ _ = W0 at hB hbl ⊢
  go_loopw [5] (fun i wr => i = .int .i64 0 ∧ wr = W0) (fun _ _ => 0)
  case atStart => exact ⟨rfl, rfl⟩
  case round =>
    obtain ⟨rfl, rfl⟩ := hrel
    obtain ⟨c0, c1, c2⟩ := hB.cell
    have hs1 := sliceR_nil none (some (.int .i64 0)) (.inl rfl) (.inr rfl)
    have hs2 := sliceR_nil (some (.int .i64 0)) none (.inr rfl) (.inl rfl)
    have hs0 := appR_nil
    have hlw := hbl.size
    go_wp2_with (at_builtin; refine wpList_append_own_at _ rfl _ _ 42 rfl w.heap.size 41 i0 (.agg #[.bool false, .int .u32 0, .int .u32 0]) 3 12 Try.underlying42 hi hz0 hz1 hz2 rfl (by decide) (.slice none 0 0) 0 [] rfl ⟨rfl, .inl ⟨rfl, rfl⟩⟩ ⟨wr.heap.size, 0, none⟩ 1 1 (RC [(true, 0, s)]) rfl rfl (cells_rec wr true 0 s) (one_rec true 0 s) (by decide) (by decide) ?c3 ?_)
    case c3 => simp; omega
    intro v2 w2 ho2 hg2 hn2 _
    have hv2 : v2 ≠ .slice none 0 0 := hn2
    have hl2 := hg2.size
    have hb2 : Below w.heap.size w w2 := (hbl.alloc hbl.size _).grown hg2 (by have := hbl.size; simp; omega) (fun k e => by simp [Value.ownBlock] at e)
    have hw2 := hb2.size
    clear hg2 hn2 hs1 hs0 hl2 c0 c1 c2 hB hbl
    go_wp2_with (at_builtin; refine wpList_append_own_src _ rfl _ _ 42 42 rfl w.heap.size 41 i0 (.agg #[.bool false, .int .u32 0, .int .u32 0]) 3 12 Try.underlying42 hi hz0 hz1 hz2 rfl v2 1 _ rfl ho2 hv2 (.slice none 0 0) 0 [] rfl (srcR_nil _) (by decide) (by decide) hw2 ?_)
    intro v3 w3 ho3 hg3 hv3
    have hlt3 := ho2.lt
    have hb3 : w.grownBy w3 none := ⟨hg3.os.trans hb2.os, hg3.tape.trans hb2.tape, hg3.output.trans hb2.output, Nat.le_trans hb2.size hg3.size, fun k hk _ => (hg3.block k (Nat.lt_of_lt_of_le hk hb2.size) (fun e => by have := (hlt3 k e.symm).1; omega)).trans (hb2.block k hk)⟩
    clear hs2 ho2 hg3
    go_wp2
    go_ret
    exact ⟨v3, rfl, ownsRow_base_a (by simpa using ho3) hbs, hb3⟩

set_option maxRecDepth 100000 in
set_option maxHeartbeats 4000000 in
theorem put_some_f (base g n cap : Nat) (out : List (Bool × Int × Int)) (a s : Int) (w : World) (hown : w.ownsRow base 41 3 (.slice (some ⟨g, 0, none⟩) n cap) n (RC out)) (hl : out.length = n) (hn : n ≤ 100000) (hbs : base ≤ w.heap.size) :
    Calls Try.prog 70 #[.slice (some ⟨g, 0, none⟩) n cap, recV false a s] w (PutP base (some g) (putL out (false, a, s)) w) := by
  obtain ⟨i0, hi, hz0, hz1, hz2⟩ := info_parts info_rec
  have hgl := (hown.lt g rfl).2
  have hcap : n ≤ cap := by
    rcases hown.2 with ⟨he, _⟩ | ⟨_, _, _, he, _, _, k3, _⟩
    · cases he
    · cases he; exact k3
  have hrl := RC_length out
  have hB := RBk.new false a s w
  have hbl : Below w.heap.size w (w.alloc (recBox false a s)) := (Below.refl _ _).alloc (Nat.le_refl _) _
  have ho := hown.alloc (recBox false a s)
  dsimp only [recBox] at hB hbl ho
  go_enter Try.func70, Try.ntmps70
  go_wp2_with fail
  generalize World.alloc _ _ = W0 at hB hbl ho ⊢
  go_loopw [5] (fun i wr => ∃ k : Nat, k ≤ n ∧ i = .int .i64 k ∧ Below W0.heap.size W0 wr ∧ putL out (false, a, s) = out.take k ++ putL (out.drop k) (false, a, s)) (fun i _ => n - (intOf i).toNat)
  case atStart => exact ⟨0, Nat.zero_le _, rfl, Below.refl _ _, rfl⟩
  case round =>
    obtain ⟨k, hk, rfl, hb, hP⟩ := hrel
    have hP' := (show Hid _ from hP)
    clear hP
    have hBr := hB.later hb
    have hor := step_append_kept ho hb
    have hbr := hbl.trans (hb.mono hbl.size)
    clear hB ho hbl
    obtain ⟨c0, c1, c2⟩ := hBr.cell
    by_cases hlt : k < n
    · have hki : (k : Int) < (n : Int) := by omega
      obtain ⟨x, hx⟩ : ∃ x, out[k]? = some x := ⟨_, List.getElem?_eq_getElem (by omega)⟩
      obtain ⟨xo, xa, xs⟩ := x
      have d0 := (hor.cellAt (k * 3) (by omega)).trans ((RC_get out k).1.trans (by rw [hx]))
      have d1 := (hor.cellAt (k * 3 + 1) (by omega)).trans ((RC_get out k).2.1.trans (by rw [hx]))
      have d2 := (hor.cellAt (k * 3 + 2) (by omega)).trans ((RC_get out k).2.2.trans (by rw [hx]))
      cases xo
      · by_cases hea : xa = a
        · subst hea
          have hput := put_match hP'.out hx rfl rfl
          have hlen : Hid ((putL out (false, xa, s)).length = n) := by
            show _ = _
            rw [hput, List.length_set, hl]
          clear hP'
          by_cases hgt : s > xs
          · have hdg : decide (xs < s) = true := decide_eq_true hgt
            have hst := (hor.stored (k * 3 + 2) (.int .u32 s)).1
            rw [RC_set out k (false, xa, xs) s hx] at hst
            have hcs : Hid (RC (putL out (false, xa, s)) = RC (out.set k (false, xa, s))) := by
              show _ = _
              rw [hput]
              dsimp only
              rw [Int.max_eq_left (by omega)]
            have hf2 := hor.frozenAt (k * 3 + 2)
            have hg3 : w.grownBy (wr.setCell ⟨g, k * 3 + 2, none⟩ (.int .u32 s)) (some g) := grown_cellOf (below_grown hbr _) (k * 3 + 2) _
            clear hput hx hor hBr
            go_wp2_with fail
            go_quiet (fail)
            go_wp2_with fail
            go_quiet (fail)
            go_wp2
            go_ret
            refine ⟨_, rfl, ?_, ⟨hg3.os, hg3.tape, hg3.output, by simpa using hg3.size, fun j hj hne => hg3.block j hj hne⟩⟩
            rw [hlen.out, hcs.out]
            exact hst.kept (row := none) ⟨rfl, rfl, rfl, Nat.le_refl _, fun _ _ _ => rfl⟩ (.inr (by simp [Value.ownBlock]))
          · have hdg : decide (xs < s) = false := decide_eq_false hgt
            have hcs : Hid (RC (putL out (false, xa, s)) = RC out) := by
              show _ = _
              rw [hput]
              dsimp only
              rw [Int.max_eq_right (by omega), set_self hx]
            clear hput hx hBr
            go_wp2_with fail
            go_quiet (fail)
            go_wp2_with fail
            go_quiet (fail)
            go_wp2
            go_ret
            refine ⟨_, rfl, ?_, ⟨hbr.os, hbr.tape, hbr.output, hbr.size, fun j hj _ => hbr.block j hj⟩⟩
            rw [hlen.out, hcs.out]
            exact hor.kept (row := none) ⟨rfl, rfl, rfl, Nat.le_refl _, fun _ _ _ => rfl⟩ (.inr (by simp [Value.ownBlock]))
        · have hd : (xa == a) = false := by simpa using hea
          by_cases hgt : xa > a
          · have hdg : decide (a < xa) = true := decide_eq_true hgt
            have hput : Hid (putL out (false, a, s) = out.take k ++ (false, a, s) :: out.drop k) := put_break hP'.out hx (fun h => hea h.2) (.inr ⟨rfl, hgt⟩)
            clear hx hea
            go_wp2_with fail
            go_quiet (fail)
            go_wp2_with fail
            go_quiet (fail)
            clear d0 d1 d2 hki
            obtain ⟨ad, hs2, had⟩ := sliceR_from g n cap k hk
            have hs1 := sliceR_to g n cap k (by omega)
            have hlt1 := RC_length (out.take k)
            have hld := RC_length (out.drop k)
            rw [List.length_take, Nat.min_eq_left (by omega)] at hlt1
            rw [List.length_drop, hl] at hld
            have hcT : ∀ (j : Nat) (u : Value), (RC (out.take k))[j]? = some u → wr.cell? ((⟨g, 0, none⟩ : Addr).add j) = some u := by
              intro j u hj
              rw [RC_take, List.getElem?_take] at hj
              split at hj
              · have := (hor.cellAt j (by omega)).trans hj
                rw [Addr.add_lit, Nat.zero_add]
                exact this
              · cases hj
            have hcD : ∀ W : World, W.heap[g]? = wr.heap[g]? → ∀ (j : Nat) (u : Value), (RC (out.drop k))[j]? = some u → W.cell? (ad.add j) = some u := by
              intro W hW j u hj
              have hjl : j < (RC (out.drop k)).length := by
                rcases Nat.lt_or_ge j (RC (out.drop k)).length with a | a
                · exact a
                · rw [List.getElem?_eq_none a] at hj; cases hj
              rw [hld] at hjl
              have hlt2 : k < n := by
                rcases Nat.lt_or_ge k n with a | a
                · exact a
                · rw [show n - k = 0 by omega] at hjl; omega
              rw [had (by omega)]
              rw [RC_drop, List.getElem?_drop] at hj
              have hlt3 : k * 3 + j < n * 3 := by
                rw [Nat.sub_mul] at hjl; omega
              rw [Addr.add_lit]
              exact (World.cell?_of_block (a := ⟨g, k * 3 + j, none⟩) hW).trans ((hor.cellAt (k * 3 + j) hlt3).trans hj)
            have hgw := (hor.lt g rfl).2
            have hwr := hbr.size
            have hk1 : Hid (0 + k ≤ maxLen) := by show _ ≤ _; unfold maxLen; omega
            have hk2 : Hid ((0 + k) * 12 ≤ 140737488355328) := by show _ ≤ _; omega
            have hk3 : Hid (k + 1 + (n - k) ≤ maxLen) := by show _ ≤ _; unfold maxLen; omega
            have hk4 : Hid ((k + 1 + (n - k)) * 12 ≤ 140737488355328) := by show _ ≤ _; omega
            have hk5 : Hid (k + 1 ≤ maxLen) := by show _ ≤ _; unfold maxLen; omega
            have hk6 : Hid ((k + 1) * 12 ≤ 140737488355328) := by show _ ≤ _; omega
            have hlen : Hid ((putL out (false, a, s)).length = k + 1 + (n - k)) := by
              show _ = _
              rw [hput.out, List.length_append, List.length_cons, List.length_take, List.length_drop, Nat.min_eq_left (by omega), hl]
              omega
            have hcs : Hid (RC (putL out (false, a, s)) = RC (out.take k) ++ (RC [(false, a, s)] ++ RC (out.drop k))) := by
              show _ = _
              rw [hput.out, RC_append, show ((false, a, s) :: out.drop k) = [(false, a, s)] ++ out.drop k from rfl, RC_append]
            have hs2' : ∀ W, (Instr.slice 42 (.slice (some ⟨g, 0, none⟩) n cap) (some (.int .i64 (k : Int))) none none).run Try.prog W = .ok (.slice (some ad) (n - k) (cap - k)) W := hs2
            clear hs2 had hP' hput hor c0 c1 c2
            go_wp2_with (at_builtin; refine wpList_append_own_at _ rfl _ _ 42 rfl w.heap.size 41 i0 (.agg #[.bool false, .int .u32 0, .int .u32 0]) 3 12 Try.underlying42 hi hz0 hz1 hz2 rfl (by decide) (.slice none 0 0) 0 [] rfl ⟨rfl, .inl ⟨rfl, rfl⟩⟩ ⟨g, 0, none⟩ k cap (RC (out.take k)) rfl hlt1 (fun j u hj => hcT j u hj) (RC_oneCell _) hk1.out hk2.out hwr ?_)
            intro v1 w1 ho1 hg1 _ _
            have hb1 : Below wr.heap.size wr w1 := ⟨hg1.os, hg1.tape, hg1.output, hg1.size, fun k hk => hg1.block k hk (by simp [Value.ownBlock])⟩
            have hB1 := hBr.later hb1
            have hbr1 := hbr.trans (hb1.mono hbr.size)
            have hw1 := hbr1.size
            have hlt2 := ho1.lt
            clear hs1 hcT hBr hg1 hk1 hk2
            obtain ⟨c0, c1, c2⟩ := hB1.cell
            go_wp2_with (at_builtin; refine wpList_append_own_at _ rfl _ _ 42 rfl w.heap.size 41 i0 (.agg #[.bool false, .int .u32 0, .int .u32 0]) 3 12 Try.underlying42 hi hz0 hz1 hz2 rfl (by decide) v1 k (RC (out.take k)) rfl (ho1.alloc _) ⟨w1.heap.size, 0, none⟩ 1 1 (RC [(false, a, s)]) rfl rfl (cells_rec w1 false a s) (one_rec false a s) hk5.out hk6.out ?c3 ?_)
            case c3 => simp; omega
            intro v2 w2 ho2 hg2 hn2 _
            have hv2 : v2 ≠ .slice none 0 0 := hn2
            have hb2 : Below w.heap.size w w2 := (hbr1.alloc hbr1.size _).grown hg2 (by simp; omega) (fun k e => (hlt2 k e).1)
            have hgb2 : w2.heap[g]? = w1.heap[g]? := (hg2.block g (by have := hb1.size; simp; omega) (fun e => by have := (hlt2 g e.symm).1; omega)).trans (Below.heap_alloc _ _ g (by have := hb1.size; omega))
            have hcD2 : ∀ (j : Nat) (u : Value), (RC (out.drop k))[j]? = some u → w2.cell? (ad.add j) = some u := hcD w2 (hgb2.trans (hb1.block g hgw))
            have hw2 := hb2.size
            have hlt3 := ho2.lt
            have hsrc : Src Try.prog 3 42 (.slice (some ad) (n - k) (cap - k)) (n - k) (RC (out.drop k)) w2 := Src.ofSlice w2 Try.underlying42 ad (n - k) (cap - k) (RC (out.drop k)) hld hcD2 (RC_oneCell _)
            clear hcD hB1 hb1 hbr1 ho1 hg2 hn2 c0 c1 c2 hlt2 hgb2 hcD2 hk5 hk6
            go_wp2_with (at_builtin; refine wpList_append_own_src _ rfl _ _ 42 42 rfl w.heap.size 41 i0 (.agg #[.bool false, .int .u32 0, .int .u32 0]) 3 12 Try.underlying42 hi hz0 hz1 hz2 rfl v2 (k + 1) _ rfl ho2 hv2 (.slice (some ad) (n - k) (cap - k)) (n - k) (RC (out.drop k)) rfl hsrc hk3.out hk4.out hw2 ?_)
            intro v3 w3 ho3 hg3 hv3
            have hb3 : w.grownBy w3 none := ⟨hg3.os.trans hb2.os, hg3.tape.trans hb2.tape, hg3.output.trans hb2.output, Nat.le_trans hb2.size hg3.size, fun k hk _ => (hg3.block k (Nat.lt_of_lt_of_le hk hb2.size) (fun e => by have := (hlt3 k e.symm).1; omega)).trans (hb2.block k hk)⟩
            clear hs2' ho2 hg3 hsrc hk3 hk4
            go_wp2
            go_ret
            refine ⟨v3, rfl, ?_, ⟨hb3.os, hb3.tape, hb3.output, hb3.size, fun k hk _ => hb3.block k hk (by simp)⟩⟩
            rw [hlen.out, hcs.out]
            exact ownsRow_base_a ho3 hbs
          · have hdg : decide (a < xa) = false := decide_eq_false hgt
            have hon := put_on hP'.out hx (fun h => hea h.2) (fun h => by rcases h with h | h; exact Bool.noConfusion h; exact hgt h.2)
            clear hx hea hP'
            go_wp2_with fail
            go_quiet (fail)
            go_wp2_with fail
            go_quiet (fail)
            go_wp2
            go_roundw
            case rel => exact ⟨k + 1, by omega, by go_num, below_drewN hb _, hon⟩
            case measure => simp [intOf]; omega
      · have hon := put_on hP'.out hx (fun h => Bool.noConfusion h.1) (fun h => by rcases h with h | h; exact Bool.noConfusion h; exact Bool.noConfusion h.1)
        clear hx hP'
        go_wp2_with fail
        go_quiet (fail)
        go_wp2_with fail
        go_quiet (fail)
        go_wp2
        go_roundw
        case rel => exact ⟨k + 1, by omega, by go_num, below_drewN hb _, hon⟩
        case measure => simp [intOf]; omega
    · have hkn : n ≤ k := by omega
      have hkf : decide ((k : Int) < (n : Int)) = false := decide_eq_false (by omega)
      have hkf2 : decide (k < n) = false := decide_eq_false (by omega)
      have hput : Hid (putL out (false, a, s) = out.take k ++ (false, a, s) :: out.drop k) := put_end hP'.out (by omega)
      obtain ⟨ad, hs2, had⟩ := sliceR_from g n cap k hk
      have hs1 := sliceR_to g n cap k (by omega)
      have hlt1 := RC_length (out.take k)
      have hld := RC_length (out.drop k)
      rw [List.length_take, Nat.min_eq_left (by omega)] at hlt1
      rw [List.length_drop, hl] at hld
      have hcT : ∀ (j : Nat) (u : Value), (RC (out.take k))[j]? = some u → wr.cell? ((⟨g, 0, none⟩ : Addr).add j) = some u := by
        intro j u hj
        rw [RC_take, List.getElem?_take] at hj
        split at hj
        · have := (hor.cellAt j (by omega)).trans hj
          rw [Addr.add_lit, Nat.zero_add]
          exact this
        · cases hj
      have hcD : ∀ W : World, W.heap[g]? = wr.heap[g]? → ∀ (j : Nat) (u : Value), (RC (out.drop k))[j]? = some u → W.cell? (ad.add j) = some u := by
        intro W hW j u hj
        have hjl : j < (RC (out.drop k)).length := by
          rcases Nat.lt_or_ge j (RC (out.drop k)).length with a | a
          · exact a
          · rw [List.getElem?_eq_none a] at hj; cases hj
        rw [hld] at hjl
        have hlt2 : k < n := by
          rcases Nat.lt_or_ge k n with a | a
          · exact a
          · rw [show n - k = 0 by omega] at hjl; omega
        rw [had (by omega)]
        rw [RC_drop, List.getElem?_drop] at hj
        have hlt3 : k * 3 + j < n * 3 := by
          rw [Nat.sub_mul] at hjl; omega
        rw [Addr.add_lit]
        exact (World.cell?_of_block (a := ⟨g, k * 3 + j, none⟩) hW).trans ((hor.cellAt (k * 3 + j) hlt3).trans hj)
      have hgw := (hor.lt g rfl).2
      have hwr := hbr.size
      have hk1 : Hid (0 + k ≤ maxLen) := by show _ ≤ _; unfold maxLen; omega
      have hk2 : Hid ((0 + k) * 12 ≤ 140737488355328) := by show _ ≤ _; omega
      have hk3 : Hid (k + 1 + (n - k) ≤ maxLen) := by show _ ≤ _; unfold maxLen; omega
      have hk4 : Hid ((k + 1 + (n - k)) * 12 ≤ 140737488355328) := by show _ ≤ _; omega
      have hk5 : Hid (k + 1 ≤ maxLen) := by show _ ≤ _; unfold maxLen; omega
      have hk6 : Hid ((k + 1) * 12 ≤ 140737488355328) := by show _ ≤ _; omega
      have hlen : Hid ((putL out (false, a, s)).length = k + 1 + (n - k)) := by
        show _ = _
        rw [hput.out, List.length_append, List.length_cons, List.length_take, List.length_drop, Nat.min_eq_left (by omega), hl]
        omega
      have hcs : Hid (RC (putL out (false, a, s)) = RC (out.take k) ++ (RC [(false, a, s)] ++ RC (out.drop k))) := by
        show _ = _
        rw [hput.out, RC_append, show ((false, a, s) :: out.drop k) = [(false, a, s)] ++ out.drop k from rfl, RC_append]
      have hs2' : ∀ W, (Instr.slice 42 (.slice (some ⟨g, 0, none⟩) n cap) (some (.int .i64 (k : Int))) none none).run Try.prog W = .ok (.slice (some ad) (n - k) (cap - k)) W := hs2
      clear hs2 had hP' hput hor c0 c1 c2
      go_wp2_with (at_builtin; refine wpList_append_own_at _ rfl _ _ 42 rfl w.heap.size 41 i0 (.agg #[.bool false, .int .u32 0, .int .u32 0]) 3 12 Try.underlying42 hi hz0 hz1 hz2 rfl (by decide) (.slice none 0 0) 0 [] rfl ⟨rfl, .inl ⟨rfl, rfl⟩⟩ ⟨g, 0, none⟩ k cap (RC (out.take k)) rfl hlt1 (fun j u hj => hcT j u hj) (RC_oneCell _) hk1.out hk2.out hwr ?_)
      intro v1 w1 ho1 hg1 _ _
      clear hlt hkn hkf hkf2
      have hb1 : Below wr.heap.size wr w1 := ⟨hg1.os, hg1.tape, hg1.output, hg1.size, fun k hk => hg1.block k hk (by simp [Value.ownBlock])⟩
      have hB1 := hBr.later hb1
      have hbr1 := hbr.trans (hb1.mono hbr.size)
      have hw1 := hbr1.size
      have hlt2 := ho1.lt
      clear hs1 hcT hBr hg1 hk1 hk2
      obtain ⟨c0, c1, c2⟩ := hB1.cell
      go_wp2_with (at_builtin; refine wpList_append_own_at _ rfl _ _ 42 rfl w.heap.size 41 i0 (.agg #[.bool false, .int .u32 0, .int .u32 0]) 3 12 Try.underlying42 hi hz0 hz1 hz2 rfl (by decide) v1 k (RC (out.take k)) rfl (ho1.alloc _) ⟨w1.heap.size, 0, none⟩ 1 1 (RC [(false, a, s)]) rfl rfl (cells_rec w1 false a s) (one_rec false a s) hk5.out hk6.out ?c3 ?_)
      case c3 => simp; omega
      intro v2 w2 ho2 hg2 hn2 _
      have hv2 : v2 ≠ .slice none 0 0 := hn2
      have hb2 : Below w.heap.size w w2 := (hbr1.alloc hbr1.size _).grown hg2 (by simp; omega) (fun k e => (hlt2 k e).1)
      have hgb2 : w2.heap[g]? = w1.heap[g]? := (hg2.block g (by have := hb1.size; simp; omega) (fun e => by have := (hlt2 g e.symm).1; omega)).trans (Below.heap_alloc _ _ g (by have := hb1.size; omega))
      have hcD2 : ∀ (j : Nat) (u : Value), (RC (out.drop k))[j]? = some u → w2.cell? (ad.add j) = some u := hcD w2 (hgb2.trans (hb1.block g hgw))
      have hw2 := hb2.size
      have hlt3 := ho2.lt
      have hsrc : Src Try.prog 3 42 (.slice (some ad) (n - k) (cap - k)) (n - k) (RC (out.drop k)) w2 := Src.ofSlice w2 Try.underlying42 ad (n - k) (cap - k) (RC (out.drop k)) hld hcD2 (RC_oneCell _)
      clear hcD hB1 hb1 hbr1 ho1 hg2 hn2 c0 c1 c2 hlt2 hgb2 hcD2 hk5 hk6
      go_wp2_with (at_builtin; refine wpList_append_own_src _ rfl _ _ 42 42 rfl w.heap.size 41 i0 (.agg #[.bool false, .int .u32 0, .int .u32 0]) 3 12 Try.underlying42 hi hz0 hz1 hz2 rfl v2 (k + 1) _ rfl ho2 hv2 (.slice (some ad) (n - k) (cap - k)) (n - k) (RC (out.drop k)) rfl hsrc hk3.out hk4.out hw2 ?_)
      intro v3 w3 ho3 hg3 hv3
      have hb3 : w.grownBy w3 none := ⟨hg3.os.trans hb2.os, hg3.tape.trans hb2.tape, hg3.output.trans hb2.output, Nat.le_trans hb2.size hg3.size, fun k hk _ => (hg3.block k (Nat.lt_of_lt_of_le hk hb2.size) (fun e => by have := (hlt3 k e.symm).1; omega)).trans (hb2.block k hk)⟩
      clear hs2' ho2 hg3 hsrc hk3 hk4
      go_wp2
      go_ret
      refine ⟨v3, rfl, ?_, ⟨hb3.os, hb3.tape, hb3.output, hb3.size, fun k hk _ => hb3.block k hk (by simp)⟩⟩
      rw [hlen.out, hcs.out]
      exact ownsRow_base_a ho3 hbs

set_option maxRecDepth 100000 in
set_option maxHeartbeats 4000000 in
theorem put_some_t (base g n cap : Nat) (out : List (Bool × Int × Int)) (a s : Int) (w : World) (hown : w.ownsRow base 41 3 (.slice (some ⟨g, 0, none⟩) n cap) n (RC out)) (hl : out.length = n) (hn : n ≤ 100000) (hbs : base ≤ w.heap.size) :
    Calls Try.prog 70 #[.slice (some ⟨g, 0, none⟩) n cap, recV true a s] w (PutP base (some g) (putL out (true, 0, s)) w) := by
  obtain ⟨i0, hi, hz0, hz1, hz2⟩ := info_parts info_rec
  have hgl := (hown.lt g rfl).2
  have hcap : n ≤ cap := by
    rcases hown.2 with ⟨he, _⟩ | ⟨_, _, _, he, _, _, k3, _⟩
    · cases he
    · cases he; exact k3
  have hrl := RC_length out
  have hB := RBk.new true 0 s w
  have hbl : Below w.heap.size w (w.alloc (recBox true 0 s)) := (Below.refl _ _).alloc (Nat.le_refl _) _
  have ho := hown.alloc (recBox true 0 s)
  dsimp only [recBox] at hB hbl ho
  go_enter Try.func70, Try.ntmps70
  go_wp2_with fail
  generalize World.alloc _ _ = W0 at hB hbl ho ⊢
  go_loopw [5] (fun i wr => ∃ k : Nat, k ≤ n ∧ i = .int .i64 k ∧ Below W0.heap.size W0 wr ∧ putL out (true, 0, s) = out.take k ++ putL (out.drop k) (true, 0, s)) (fun i _ => n - (intOf i).toNat)
  case atStart => exact ⟨0, Nat.zero_le _, rfl, Below.refl _ _, rfl⟩
  case round =>
    obtain ⟨k, hk, rfl, hb, hP⟩ := hrel
    have hP' := (show Hid _ from hP)
    clear hP
    have hBr := hB.later hb
    have hor := step_append_kept ho hb
    have hbr := hbl.trans (hb.mono hbl.size)
    clear hB ho hbl
    obtain ⟨c0, c1, c2⟩ := hBr.cell
    by_cases hlt : k < n
    · have hki : (k : Int) < (n : Int) := by omega
      obtain ⟨x, hx⟩ : ∃ x, out[k]? = some x := ⟨_, List.getElem?_eq_getElem (by omega)⟩
      obtain ⟨xo, xa, xs⟩ := x
      have d0 := (hor.cellAt (k * 3) (by omega)).trans ((RC_get out k).1.trans (by rw [hx]))
      have d1 := (hor.cellAt (k * 3 + 1) (by omega)).trans ((RC_get out k).2.1.trans (by rw [hx]))
      have d2 := (hor.cellAt (k * 3 + 2) (by omega)).trans ((RC_get out k).2.2.trans (by rw [hx]))
      cases xo
      · have hput : Hid (putL out (true, 0, s) = out.take k ++ (true, 0, s) :: out.drop k) := put_break hP'.out hx (fun h => Bool.noConfusion h.1) (.inl rfl)
        clear hx
        go_wp2_with fail
        go_quiet (fail)
        go_wp2_with fail
        go_quiet (fail)
        clear d0 d1 d2 hki
        obtain ⟨ad, hs2, had⟩ := sliceR_from g n cap k hk
        have hs1 := sliceR_to g n cap k (by omega)
        have hlt1 := RC_length (out.take k)
        have hld := RC_length (out.drop k)
        rw [List.length_take, Nat.min_eq_left (by omega)] at hlt1
        rw [List.length_drop, hl] at hld
        have hcT : ∀ (j : Nat) (u : Value), (RC (out.take k))[j]? = some u → wr.cell? ((⟨g, 0, none⟩ : Addr).add j) = some u := by
          intro j u hj
          rw [RC_take, List.getElem?_take] at hj
          split at hj
          · have := (hor.cellAt j (by omega)).trans hj
            rw [Addr.add_lit, Nat.zero_add]
            exact this
          · cases hj
        have hcD : ∀ W : World, W.heap[g]? = wr.heap[g]? → ∀ (j : Nat) (u : Value), (RC (out.drop k))[j]? = some u → W.cell? (ad.add j) = some u := by
          intro W hW j u hj
          have hjl : j < (RC (out.drop k)).length := by
            rcases Nat.lt_or_ge j (RC (out.drop k)).length with a | a
            · exact a
            · rw [List.getElem?_eq_none a] at hj; cases hj
          rw [hld] at hjl
          have hlt2 : k < n := by
            rcases Nat.lt_or_ge k n with a | a
            · exact a
            · rw [show n - k = 0 by omega] at hjl; omega
          rw [had (by omega)]
          rw [RC_drop, List.getElem?_drop] at hj
          have hlt3 : k * 3 + j < n * 3 := by
            rw [Nat.sub_mul] at hjl; omega
          rw [Addr.add_lit]
          exact (World.cell?_of_block (a := ⟨g, k * 3 + j, none⟩) hW).trans ((hor.cellAt (k * 3 + j) hlt3).trans hj)
        have hgw := (hor.lt g rfl).2
        have hwr := hbr.size
        have hk1 : Hid (0 + k ≤ maxLen) := by show _ ≤ _; unfold maxLen; omega
        have hk2 : Hid ((0 + k) * 12 ≤ 140737488355328) := by show _ ≤ _; omega
        have hk3 : Hid (k + 1 + (n - k) ≤ maxLen) := by show _ ≤ _; unfold maxLen; omega
        have hk4 : Hid ((k + 1 + (n - k)) * 12 ≤ 140737488355328) := by show _ ≤ _; omega
        have hk5 : Hid (k + 1 ≤ maxLen) := by show _ ≤ _; unfold maxLen; omega
        have hk6 : Hid ((k + 1) * 12 ≤ 140737488355328) := by show _ ≤ _; omega
        have hlen : Hid ((putL out (true, 0, s)).length = k + 1 + (n - k)) := by
          show _ = _
          rw [hput.out, List.length_append, List.length_cons, List.length_take, List.length_drop, Nat.min_eq_left (by omega), hl]
          omega
        have hcs : Hid (RC (putL out (true, 0, s)) = RC (out.take k) ++ (RC [(true, 0, s)] ++ RC (out.drop k))) := by
          show _ = _
          rw [hput.out, RC_append, show ((true, 0, s) :: out.drop k) = [(true, 0, s)] ++ out.drop k from rfl, RC_append]
        have hs2' : ∀ W, (Instr.slice 42 (.slice (some ⟨g, 0, none⟩) n cap) (some (.int .i64 (k : Int))) none none).run Try.prog W = .ok (.slice (some ad) (n - k) (cap - k)) W := hs2
        clear hs2 had hP' hput hor c0 c1 c2
        go_wp2_with (at_builtin; refine wpList_append_own_at _ rfl _ _ 42 rfl w.heap.size 41 i0 (.agg #[.bool false, .int .u32 0, .int .u32 0]) 3 12 Try.underlying42 hi hz0 hz1 hz2 rfl (by decide) (.slice none 0 0) 0 [] rfl ⟨rfl, .inl ⟨rfl, rfl⟩⟩ ⟨g, 0, none⟩ k cap (RC (out.take k)) rfl hlt1 (fun j u hj => hcT j u hj) (RC_oneCell _) hk1.out hk2.out hwr ?_)
        intro v1 w1 ho1 hg1 _ _
        have hb1 : Below wr.heap.size wr w1 := ⟨hg1.os, hg1.tape, hg1.output, hg1.size, fun k hk => hg1.block k hk (by simp [Value.ownBlock])⟩
        have hB1 := hBr.later hb1
        have hbr1 := hbr.trans (hb1.mono hbr.size)
        have hw1 := hbr1.size
        have hlt2 := ho1.lt
        clear hs1 hcT hBr hg1 hk1 hk2
        obtain ⟨c0, c1, c2⟩ := hB1.cell
        go_wp2_with (at_builtin; refine wpList_append_own_at _ rfl _ _ 42 rfl w.heap.size 41 i0 (.agg #[.bool false, .int .u32 0, .int .u32 0]) 3 12 Try.underlying42 hi hz0 hz1 hz2 rfl (by decide) v1 k (RC (out.take k)) rfl (ho1.alloc _) ⟨w1.heap.size, 0, none⟩ 1 1 (RC [(true, 0, s)]) rfl rfl (cells_rec w1 true 0 s) (one_rec true 0 s) hk5.out hk6.out ?c3 ?_)
        case c3 => simp; omega
        intro v2 w2 ho2 hg2 hn2 _
        have hv2 : v2 ≠ .slice none 0 0 := hn2
        have hb2 : Below w.heap.size w w2 := (hbr1.alloc hbr1.size _).grown hg2 (by simp; omega) (fun k e => (hlt2 k e).1)
        have hgb2 : w2.heap[g]? = w1.heap[g]? := (hg2.block g (by have := hb1.size; simp; omega) (fun e => by have := (hlt2 g e.symm).1; omega)).trans (Below.heap_alloc _ _ g (by have := hb1.size; omega))
        have hcD2 : ∀ (j : Nat) (u : Value), (RC (out.drop k))[j]? = some u → w2.cell? (ad.add j) = some u := hcD w2 (hgb2.trans (hb1.block g hgw))
        have hw2 := hb2.size
        have hlt3 := ho2.lt
        have hsrc : Src Try.prog 3 42 (.slice (some ad) (n - k) (cap - k)) (n - k) (RC (out.drop k)) w2 := Src.ofSlice w2 Try.underlying42 ad (n - k) (cap - k) (RC (out.drop k)) hld hcD2 (RC_oneCell _)
        clear hcD hB1 hb1 hbr1 ho1 hg2 hn2 c0 c1 c2 hlt2 hgb2 hcD2 hk5 hk6
        go_wp2_with (at_builtin; refine wpList_append_own_src _ rfl _ _ 42 42 rfl w.heap.size 41 i0 (.agg #[.bool false, .int .u32 0, .int .u32 0]) 3 12 Try.underlying42 hi hz0 hz1 hz2 rfl v2 (k + 1) _ rfl ho2 hv2 (.slice (some ad) (n - k) (cap - k)) (n - k) (RC (out.drop k)) rfl hsrc hk3.out hk4.out hw2 ?_)
        intro v3 w3 ho3 hg3 hv3
        have hb3 : w.grownBy w3 none := ⟨hg3.os.trans hb2.os, hg3.tape.trans hb2.tape, hg3.output.trans hb2.output, Nat.le_trans hb2.size hg3.size, fun k hk _ => (hg3.block k (Nat.lt_of_lt_of_le hk hb2.size) (fun e => by have := (hlt3 k e.symm).1; omega)).trans (hb2.block k hk)⟩
        clear hs2' ho2 hg3 hsrc hk3 hk4
        go_wp2
        go_ret
        refine ⟨v3, rfl, ?_, ⟨hb3.os, hb3.tape, hb3.output, hb3.size, fun k hk _ => hb3.block k hk (by simp)⟩⟩
        rw [hlen.out, hcs.out]
        exact ownsRow_base_a ho3 hbs
      · by_cases hea : xa = 0
        · subst hea
          have hput := put_match hP'.out hx rfl rfl
          have hlen : Hid ((putL out (true, 0, s)).length = n) := by
            show _ = _
            rw [hput, List.length_set, hl]
          clear hP'
          by_cases hgt : s > xs
          · have hdg : decide (xs < s) = true := decide_eq_true hgt
            have hst := (hor.stored (k * 3 + 2) (.int .u32 s)).1
            rw [RC_set out k (true, 0, xs) s hx] at hst
            have hcs : Hid (RC (putL out (true, 0, s)) = RC (out.set k (true, 0, s))) := by
              show _ = _
              rw [hput]
              dsimp only
              rw [Int.max_eq_left (by omega)]
            have hf2 := hor.frozenAt (k * 3 + 2)
            have hg3 : w.grownBy (wr.setCell ⟨g, k * 3 + 2, none⟩ (.int .u32 s)) (some g) := grown_cellOf (below_grown hbr _) (k * 3 + 2) _
            clear hput hx hor hBr
            go_wp2_with fail
            go_quiet (fail)
            go_wp2_with fail
            go_quiet (fail)
            go_wp2
            go_ret
            refine ⟨_, rfl, ?_, ⟨hg3.os, hg3.tape, hg3.output, by simpa using hg3.size, fun j hj hne => hg3.block j hj hne⟩⟩
            rw [hlen.out, hcs.out]
            exact hst.kept (row := none) ⟨rfl, rfl, rfl, Nat.le_refl _, fun _ _ _ => rfl⟩ (.inr (by simp [Value.ownBlock]))
          · have hdg : decide (xs < s) = false := decide_eq_false hgt
            have hcs : Hid (RC (putL out (true, 0, s)) = RC out) := by
              show _ = _
              rw [hput]
              dsimp only
              rw [Int.max_eq_right (by omega), set_self hx]
            clear hput hx hBr
            go_wp2_with fail
            go_quiet (fail)
            go_wp2_with fail
            go_quiet (fail)
            go_wp2
            go_ret
            refine ⟨_, rfl, ?_, ⟨hbr.os, hbr.tape, hbr.output, hbr.size, fun j hj _ => hbr.block j hj⟩⟩
            rw [hlen.out, hcs.out]
            exact hor.kept (row := none) ⟨rfl, rfl, rfl, Nat.le_refl _, fun _ _ _ => rfl⟩ (.inr (by simp [Value.ownBlock]))
        · have hd : (xa == 0) = false := by simpa using hea
          have hput : Hid (putL out (true, 0, s) = out.take k ++ (true, 0, s) :: out.drop k) := put_break hP'.out hx (fun h => hea h.2) (.inl rfl)
          clear hx hea
          go_wp2_with fail
          go_quiet (fail)
          go_wp2_with fail
          go_quiet (fail)
          clear d0 d1 d2 hki
          obtain ⟨ad, hs2, had⟩ := sliceR_from g n cap k hk
          have hs1 := sliceR_to g n cap k (by omega)
          have hlt1 := RC_length (out.take k)
          have hld := RC_length (out.drop k)
          rw [List.length_take, Nat.min_eq_left (by omega)] at hlt1
          rw [List.length_drop, hl] at hld
          have hcT : ∀ (j : Nat) (u : Value), (RC (out.take k))[j]? = some u → wr.cell? ((⟨g, 0, none⟩ : Addr).add j) = some u := by
            intro j u hj
            rw [RC_take, List.getElem?_take] at hj
            split at hj
            · have := (hor.cellAt j (by omega)).trans hj
              rw [Addr.add_lit, Nat.zero_add]
              exact this
            · cases hj
          have hcD : ∀ W : World, W.heap[g]? = wr.heap[g]? → ∀ (j : Nat) (u : Value), (RC (out.drop k))[j]? = some u → W.cell? (ad.add j) = some u := by
            intro W hW j u hj
            have hjl : j < (RC (out.drop k)).length := by
              rcases Nat.lt_or_ge j (RC (out.drop k)).length with a | a
              · exact a
              · rw [List.getElem?_eq_none a] at hj; cases hj
            rw [hld] at hjl
            have hlt2 : k < n := by
              rcases Nat.lt_or_ge k n with a | a
              · exact a
              · rw [show n - k = 0 by omega] at hjl; omega
            rw [had (by omega)]
            rw [RC_drop, List.getElem?_drop] at hj
            have hlt3 : k * 3 + j < n * 3 := by
              rw [Nat.sub_mul] at hjl; omega
            rw [Addr.add_lit]
            exact (World.cell?_of_block (a := ⟨g, k * 3 + j, none⟩) hW).trans ((hor.cellAt (k * 3 + j) hlt3).trans hj)
          have hgw := (hor.lt g rfl).2
          have hwr := hbr.size
          have hk1 : Hid (0 + k ≤ maxLen) := by show _ ≤ _; unfold maxLen; omega
          have hk2 : Hid ((0 + k) * 12 ≤ 140737488355328) := by show _ ≤ _; omega
          have hk3 : Hid (k + 1 + (n - k) ≤ maxLen) := by show _ ≤ _; unfold maxLen; omega
          have hk4 : Hid ((k + 1 + (n - k)) * 12 ≤ 140737488355328) := by show _ ≤ _; omega
          have hk5 : Hid (k + 1 ≤ maxLen) := by show _ ≤ _; unfold maxLen; omega
          have hk6 : Hid ((k + 1) * 12 ≤ 140737488355328) := by show _ ≤ _; omega
          have hlen : Hid ((putL out (true, 0, s)).length = k + 1 + (n - k)) := by
            show _ = _
            rw [hput.out, List.length_append, List.length_cons, List.length_take, List.length_drop, Nat.min_eq_left (by omega), hl]
            omega
          have hcs : Hid (RC (putL out (true, 0, s)) = RC (out.take k) ++ (RC [(true, 0, s)] ++ RC (out.drop k))) := by
            show _ = _
            rw [hput.out, RC_append, show ((true, 0, s) :: out.drop k) = [(true, 0, s)] ++ out.drop k from rfl, RC_append]
          have hs2' : ∀ W, (Instr.slice 42 (.slice (some ⟨g, 0, none⟩) n cap) (some (.int .i64 (k : Int))) none none).run Try.prog W = .ok (.slice (some ad) (n - k) (cap - k)) W := hs2
          clear hs2 had hP' hput hor c0 c1 c2
          go_wp2_with (at_builtin; refine wpList_append_own_at _ rfl _ _ 42 rfl w.heap.size 41 i0 (.agg #[.bool false, .int .u32 0, .int .u32 0]) 3 12 Try.underlying42 hi hz0 hz1 hz2 rfl (by decide) (.slice none 0 0) 0 [] rfl ⟨rfl, .inl ⟨rfl, rfl⟩⟩ ⟨g, 0, none⟩ k cap (RC (out.take k)) rfl hlt1 (fun j u hj => hcT j u hj) (RC_oneCell _) hk1.out hk2.out hwr ?_)
          intro v1 w1 ho1 hg1 _ _
          have hb1 : Below wr.heap.size wr w1 := ⟨hg1.os, hg1.tape, hg1.output, hg1.size, fun k hk => hg1.block k hk (by simp [Value.ownBlock])⟩
          have hB1 := hBr.later hb1
          have hbr1 := hbr.trans (hb1.mono hbr.size)
          have hw1 := hbr1.size
          have hlt2 := ho1.lt
          clear hs1 hcT hBr hg1 hk1 hk2
          obtain ⟨c0, c1, c2⟩ := hB1.cell
          go_wp2_with (at_builtin; refine wpList_append_own_at _ rfl _ _ 42 rfl w.heap.size 41 i0 (.agg #[.bool false, .int .u32 0, .int .u32 0]) 3 12 Try.underlying42 hi hz0 hz1 hz2 rfl (by decide) v1 k (RC (out.take k)) rfl (ho1.alloc _) ⟨w1.heap.size, 0, none⟩ 1 1 (RC [(true, 0, s)]) rfl rfl (cells_rec w1 true 0 s) (one_rec true 0 s) hk5.out hk6.out ?c3 ?_)
          case c3 => simp; omega
          intro v2 w2 ho2 hg2 hn2 _
          have hv2 : v2 ≠ .slice none 0 0 := hn2
          have hb2 : Below w.heap.size w w2 := (hbr1.alloc hbr1.size _).grown hg2 (by simp; omega) (fun k e => (hlt2 k e).1)
          have hgb2 : w2.heap[g]? = w1.heap[g]? := (hg2.block g (by have := hb1.size; simp; omega) (fun e => by have := (hlt2 g e.symm).1; omega)).trans (Below.heap_alloc _ _ g (by have := hb1.size; omega))
          have hcD2 : ∀ (j : Nat) (u : Value), (RC (out.drop k))[j]? = some u → w2.cell? (ad.add j) = some u := hcD w2 (hgb2.trans (hb1.block g hgw))
          have hw2 := hb2.size
          have hlt3 := ho2.lt
          have hsrc : Src Try.prog 3 42 (.slice (some ad) (n - k) (cap - k)) (n - k) (RC (out.drop k)) w2 := Src.ofSlice w2 Try.underlying42 ad (n - k) (cap - k) (RC (out.drop k)) hld hcD2 (RC_oneCell _)
          clear hcD hB1 hb1 hbr1 ho1 hg2 hn2 c0 c1 c2 hlt2 hgb2 hcD2 hk5 hk6
          go_wp2_with (at_builtin; refine wpList_append_own_src _ rfl _ _ 42 42 rfl w.heap.size 41 i0 (.agg #[.bool false, .int .u32 0, .int .u32 0]) 3 12 Try.underlying42 hi hz0 hz1 hz2 rfl v2 (k + 1) _ rfl ho2 hv2 (.slice (some ad) (n - k) (cap - k)) (n - k) (RC (out.drop k)) rfl hsrc hk3.out hk4.out hw2 ?_)
          intro v3 w3 ho3 hg3 hv3
          have hb3 : w.grownBy w3 none := ⟨hg3.os.trans hb2.os, hg3.tape.trans hb2.tape, hg3.output.trans hb2.output, Nat.le_trans hb2.size hg3.size, fun k hk _ => (hg3.block k (Nat.lt_of_lt_of_le hk hb2.size) (fun e => by have := (hlt3 k e.symm).1; omega)).trans (hb2.block k hk)⟩
          clear hs2' ho2 hg3 hsrc hk3 hk4
          go_wp2
          go_ret
          refine ⟨v3, rfl, ?_, ⟨hb3.os, hb3.tape, hb3.output, hb3.size, fun k hk _ => hb3.block k hk (by simp)⟩⟩
          rw [hlen.out, hcs.out]
          exact ownsRow_base_a ho3 hbs
    · have hkn : n ≤ k := by omega
      have hkf : decide ((k : Int) < (n : Int)) = false := decide_eq_false (by omega)
      have hkf2 : decide (k < n) = false := decide_eq_false (by omega)
      have hput : Hid (putL out (true, 0, s) = out.take k ++ (true, 0, s) :: out.drop k) := put_end hP'.out (by omega)
      obtain ⟨ad, hs2, had⟩ := sliceR_from g n cap k hk
      have hs1 := sliceR_to g n cap k (by omega)
      have hlt1 := RC_length (out.take k)
      have hld := RC_length (out.drop k)
      rw [List.length_take, Nat.min_eq_left (by omega)] at hlt1
      rw [List.length_drop, hl] at hld
      have hcT : ∀ (j : Nat) (u : Value), (RC (out.take k))[j]? = some u → wr.cell? ((⟨g, 0, none⟩ : Addr).add j) = some u := by
        intro j u hj
        rw [RC_take, List.getElem?_take] at hj
        split at hj
        · have := (hor.cellAt j (by omega)).trans hj
          rw [Addr.add_lit, Nat.zero_add]
          exact this
        · cases hj
      have hcD : ∀ W : World, W.heap[g]? = wr.heap[g]? → ∀ (j : Nat) (u : Value), (RC (out.drop k))[j]? = some u → W.cell? (ad.add j) = some u := by
        intro W hW j u hj
        have hjl : j < (RC (out.drop k)).length := by
          rcases Nat.lt_or_ge j (RC (out.drop k)).length with a | a
          · exact a
          · rw [List.getElem?_eq_none a] at hj; cases hj
        rw [hld] at hjl
        have hlt2 : k < n := by
          rcases Nat.lt_or_ge k n with a | a
          · exact a
          · rw [show n - k = 0 by omega] at hjl; omega
        rw [had (by omega)]
        rw [RC_drop, List.getElem?_drop] at hj
        have hlt3 : k * 3 + j < n * 3 := by
          rw [Nat.sub_mul] at hjl; omega
        rw [Addr.add_lit]
        exact (World.cell?_of_block (a := ⟨g, k * 3 + j, none⟩) hW).trans ((hor.cellAt (k * 3 + j) hlt3).trans hj)
      have hgw := (hor.lt g rfl).2
      have hwr := hbr.size
      have hk1 : Hid (0 + k ≤ maxLen) := by show _ ≤ _; unfold maxLen; omega
      have hk2 : Hid ((0 + k) * 12 ≤ 140737488355328) := by show _ ≤ _; omega
      have hk3 : Hid (k + 1 + (n - k) ≤ maxLen) := by show _ ≤ _; unfold maxLen; omega
      have hk4 : Hid ((k + 1 + (n - k)) * 12 ≤ 140737488355328) := by show _ ≤ _; omega
      have hk5 : Hid (k + 1 ≤ maxLen) := by show _ ≤ _; unfold maxLen; omega
      have hk6 : Hid ((k + 1) * 12 ≤ 140737488355328) := by show _ ≤ _; omega
      have hlen : Hid ((putL out (true, 0, s)).length = k + 1 + (n - k)) := by
        show _ = _
        rw [hput.out, List.length_append, List.length_cons, List.length_take, List.length_drop, Nat.min_eq_left (by omega), hl]
        omega
      have hcs : Hid (RC (putL out (true, 0, s)) = RC (out.take k) ++ (RC [(true, 0, s)] ++ RC (out.drop k))) := by
        show _ = _
        rw [hput.out, RC_append, show ((true, 0, s) :: out.drop k) = [(true, 0, s)] ++ out.drop k from rfl, RC_append]
      have hs2' : ∀ W, (Instr.slice 42 (.slice (some ⟨g, 0, none⟩) n cap) (some (.int .i64 (k : Int))) none none).run Try.prog W = .ok (.slice (some ad) (n - k) (cap - k)) W := hs2
      clear hs2 had hP' hput hor c0 c1 c2
      go_wp2_with (at_builtin; refine wpList_append_own_at _ rfl _ _ 42 rfl w.heap.size 41 i0 (.agg #[.bool false, .int .u32 0, .int .u32 0]) 3 12 Try.underlying42 hi hz0 hz1 hz2 rfl (by decide) (.slice none 0 0) 0 [] rfl ⟨rfl, .inl ⟨rfl, rfl⟩⟩ ⟨g, 0, none⟩ k cap (RC (out.take k)) rfl hlt1 (fun j u hj => hcT j u hj) (RC_oneCell _) hk1.out hk2.out hwr ?_)
      intro v1 w1 ho1 hg1 _ _
      clear hlt hkn hkf hkf2
      have hb1 : Below wr.heap.size wr w1 := ⟨hg1.os, hg1.tape, hg1.output, hg1.size, fun k hk => hg1.block k hk (by simp [Value.ownBlock])⟩
      have hB1 := hBr.later hb1
      have hbr1 := hbr.trans (hb1.mono hbr.size)
      have hw1 := hbr1.size
      have hlt2 := ho1.lt
      clear hs1 hcT hBr hg1 hk1 hk2
      obtain ⟨c0, c1, c2⟩ := hB1.cell
      go_wp2_with (at_builtin; refine wpList_append_own_at _ rfl _ _ 42 rfl w.heap.size 41 i0 (.agg #[.bool false, .int .u32 0, .int .u32 0]) 3 12 Try.underlying42 hi hz0 hz1 hz2 rfl (by decide) v1 k (RC (out.take k)) rfl (ho1.alloc _) ⟨w1.heap.size, 0, none⟩ 1 1 (RC [(true, 0, s)]) rfl rfl (cells_rec w1 true 0 s) (one_rec true 0 s) hk5.out hk6.out ?c3 ?_)
      case c3 => simp; omega
      intro v2 w2 ho2 hg2 hn2 _
      have hv2 : v2 ≠ .slice none 0 0 := hn2
      have hb2 : Below w.heap.size w w2 := (hbr1.alloc hbr1.size _).grown hg2 (by simp; omega) (fun k e => (hlt2 k e).1)
      have hgb2 : w2.heap[g]? = w1.heap[g]? := (hg2.block g (by have := hb1.size; simp; omega) (fun e => by have := (hlt2 g e.symm).1; omega)).trans (Below.heap_alloc _ _ g (by have := hb1.size; omega))
      have hcD2 : ∀ (j : Nat) (u : Value), (RC (out.drop k))[j]? = some u → w2.cell? (ad.add j) = some u := hcD w2 (hgb2.trans (hb1.block g hgw))
      have hw2 := hb2.size
      have hlt3 := ho2.lt
      have hsrc : Src Try.prog 3 42 (.slice (some ad) (n - k) (cap - k)) (n - k) (RC (out.drop k)) w2 := Src.ofSlice w2 Try.underlying42 ad (n - k) (cap - k) (RC (out.drop k)) hld hcD2 (RC_oneCell _)
      clear hcD hB1 hb1 hbr1 ho1 hg2 hn2 c0 c1 c2 hlt2 hgb2 hcD2 hk5 hk6
      go_wp2_with (at_builtin; refine wpList_append_own_src _ rfl _ _ 42 42 rfl w.heap.size 41 i0 (.agg #[.bool false, .int .u32 0, .int .u32 0]) 3 12 Try.underlying42 hi hz0 hz1 hz2 rfl v2 (k + 1) _ rfl ho2 hv2 (.slice (some ad) (n - k) (cap - k)) (n - k) (RC (out.drop k)) rfl hsrc hk3.out hk4.out hw2 ?_)
      intro v3 w3 ho3 hg3 hv3
      have hb3 : w.grownBy w3 none := ⟨hg3.os.trans hb2.os, hg3.tape.trans hb2.tape, hg3.output.trans hb2.output, Nat.le_trans hb2.size hg3.size, fun k hk _ => (hg3.block k (Nat.lt_of_lt_of_le hk hb2.size) (fun e => by have := (hlt3 k e.symm).1; omega)).trans (hb2.block k hk)⟩
      clear hs2' ho2 hg3 hsrc hk3 hk4
      go_wp2
      go_ret
      refine ⟨v3, rfl, ?_, ⟨hb3.os, hb3.tape, hb3.output, hb3.size, fun k hk _ => hb3.block k hk (by simp)⟩⟩
      rw [hlen.out, hcs.out]
      exact ownsRow_base_a ho3 hbs
end Go.Proofs.Ytpdjhcfkhblioaa
