import Derived.Test.YtpdjhcfkhblioaaV2
namespace Go.Proofs.Ytpdjhcfkhblioaa
open Go.RowKit

theorem put_any (base n : Nat) (v : Value) (out : List (Bool × Int × Int)) (o : Bool) (a s : Int) (w : World) (hown : w.ownsRow base 41 3 v n (RC out)) (hl : out.length = n) (hn : n ≤ 100000) (hbs : base ≤ w.heap.size) :
    Calls Try.prog 70 #[v, recV o a s] w (PutP base v.ownBlock (putL out (norm (o, a, s))) w) := by
  rcases hown.2 with ⟨rfl, rfl⟩ | ⟨g, cap, cur, rfl, rest⟩
  · obtain rfl : out = [] := List.eq_nil_of_length_eq_zero hl
    cases o
    · exact put_nil_f base a s w hbs
    · exact put_nil_t base a s w hbs
  · cases o
    · exact put_some_f base g n cap out a s w hown hl hn hbs
    · exact put_some_t base g n cap out a s w hown hl hn hbs
theorem putL_length (out : List (Bool × Int × Int)) (r : Bool × Int × Int) : (putL out r).length ≤ out.length + 1 := by
  induction out with
  | nil => simp [putL]
  | cons x l ih =>
    unfold putL
    split
    · simp
    · split
      · simp
      · simp; omega
/-- What both Compacts hand back: the compact list of what counts, in a row of the call's own. -/
def CmpP (L : List (Bool × Int × Int)) (w : World) (e : Ending) (w' : World) : Prop :=
  ∃ v out, e = .returned v ∧ IsCmp (mpL L) (owL L) out ∧ out.length ≤ L.length + 1 ∧ w'.ownsRow w.heap.size 41 3 v out.length (RC out) ∧ Below w.heap.size w w'
theorem take_snocR {L : List (Bool × Int × Int)} {k : Nat} {x : Bool × Int × Int} (h : L[k]? = some x) : L.take (k + 1) = L.take k ++ [x] := by
  obtain ⟨hk, rfl⟩ := List.getElem?_eq_some_iff.1 h
  exact List.take_succ_eq_append_getElem hk

set_option maxRecDepth 100000 in
set_option maxHeartbeats 4000000 in
theorem rCompact_any (ao : Option Addr) (n c : Nat) (L : List (Bool × Int × Int)) (hL : L.length = n) (hn : n ≤ 50000) (hbd : RBd L) (w : World) (hA : HoldsC w ao (RC L)) :
    Calls Try.prog 23 #[.slice ao n c] w (CmpP L w) := by
  go_enter Try.func23, Try.ntmps23
  go_wp2_with fail
  go_loopw [3, 4] (fun v i wr => ∃ (k : Nat) (out : List (Bool × Int × Int)), k ≤ n ∧ i = .int .i64 k ∧ out.length ≤ k ∧ IsCmp (mpL (L.take k)) (owL (L.take k)) out ∧ wr.ownsRow w.heap.size 41 3 v out.length (RC out) ∧ Below w.heap.size w wr) (fun _ i _ => n - (intOf i).toNat)
  case atStart => exact ⟨0, [], Nat.zero_le _, rfl, Nat.le_refl _, IsCmp.nil, ⟨rfl, .inl ⟨rfl, rfl⟩⟩, Below.refl _ _⟩
  case round =>
    obtain ⟨k, out, hk, rfl, hlen, hcmp, ho, hb⟩ := hrel
    by_cases hlt : k < n
    · have hki : (k : Int) < (n : Int) := by omega
      obtain ⟨x, hx⟩ : ∃ x, L[k]? = some x := ⟨_, List.getElem?_eq_getElem (by omega)⟩
      have hat : ∀ i z, i < 3 → ([.bool x.1, .int .u32 x.2.1, .int .u32 x.2.2] : List Value)[i]? = some z → (RC L)[k * 3 + i]? = some z := fun i z hi hz => (flat_at (fun x : Bool × Int × Int => ([Value.bool x.1, Value.int .u32 x.2.1, Value.int .u32 x.2.2] : List Value)) 3 (by decide) (fun _ => rfl) L k i hi hx).trans hz
      have hA' := hA.below hb
      obtain ⟨b1, o1, rfl, hj1⟩ := hA' (k * 3 + 0) _ (hat 0 _ (by decide) rfl)
      have d0 := hA'.one rfl (hat 0 _ (by decide) rfl)
      have d1 := hA'.one rfl (hat 1 _ (by decide) rfl)
      have d2 := hA'.one rfl (hat 2 _ (by decide) rfl)
      have hxb := hbd x (List.mem_of_getElem? hx)
      have hst := hcmp.put x hxb.2.1
      rw [← mpL_snoc, ← owL_snoc, ← take_snocR hx] at hst
      have hpl := putL_length out (norm x)
      have hst' := (show Hid _ from hst)
      have hpl' := (show Hid _ from hpl)
      clear hj1 hat hA' hx hxb hst hpl hcmp
      obtain ⟨xo, xa, xs⟩ := x
      dsimp only at d0 d1 d2
      rw [Nat.add_zero] at d0
      rw [← Nat.add_assoc] at d1 d2
      have hp := fun W => put_any w.heap.size out.length u3 out xo xa xs W
      have HP := (show Hid _ from hp)
      clear hp
      go_wp2_with fail
      refine Calls.mono (HP.out _ ho (by first | trivial | rfl) (by omega) hb.size) ?_
      rintro e W1 ⟨v', rfl, ho', hg⟩
      have hb' := hb.grown hg hb.size (fun k hk => (ho.lt k hk).1)
      clear HP d0 d1 d2 ho hg hb
      go_wp2
      go_roundw
      case rel => exact ⟨k + 1, _, by omega, by go_num, Nat.le_trans hpl'.out (by omega), hst'.out, ho', hb'⟩
      case measure => simp [intOf]; omega
    · have hkn : k = n := by omega
      subst hkn
      rw [List.take_of_length_le (by omega)] at hcmp
      go_wp2
      go_ret
      exact ⟨_, out, rfl, hcmp, by omega, ho, hb⟩
end Go.Proofs.Ytpdjhcfkhblioaa
