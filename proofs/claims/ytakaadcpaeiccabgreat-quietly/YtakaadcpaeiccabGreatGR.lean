import Derived.Test.YtakaadcpaeiccabGreatGP
namespace Go.Proofs.YtakaadcpaeiccabGreat
open Go.RowKit

set_option maxRecDepth 100000 in
set_option maxHeartbeats 1000000 in
/-- The deferred closure, behind a panic: nothing is read, and the error is told. -/
theorem catch_panicking (C E : Nat) (hCE : C ≠ E) (z : Pkt) (x : Int) (u : TypeId) (pv : Value) (older : List PanicEntry) (w : World) (hC : PB z C w) (hE : w.heap[E]? = some (.cells #[.int .i64 x] 47 (0, 0))) :
    CallsD Tryz.prog 55 #[.pointer (some ⟨C, 0, none⟩), .pointer (some ⟨E, 0, none⟩)] (.panicking ({ v := .iface u pv, recovered := false } :: older)) w fun e u' w' =>
      e = .returned (.tuple #[]) ∧ u' = .panicking ({ v := .iface u pv, recovered := true } :: older) ∧ w' = (store12 w C Pkt.zero).setCell ⟨E, 0, none⟩ (.int .i64 1) := by
  obtain ⟨k0, k1, k2, k3, k4, k5, k6, k7, k8, k9, k10, k11⟩ := hC.cell
  have kf := hC.free
  have e0 : w.cell? ⟨E, 0, none⟩ = some (.int .i64 x) := cell_of_row w E 0 _ _ _ hE
  have ef : w.frozen? ⟨E, 0, none⟩ = false := frozen_of_row w E 0 _ _ hE
  refine callsD_of_wpS Tryz.func55 rfl fun c₀ cs hu => ?_
  apply wpS_seq
  apply wpS_region
  simp [wpOpsS, go_sem, recoverD, hu, Tryz.ntmps55, Exit.thenS]
  refine wpS_cond (t := true) (by simp [Act.eval, Array.replicate]) ?_
  simp only [if_true]
  apply wpS_region
  simp [wpOpsS, go_sem, k0, k1, k2, k3, k4, k5, k6, k7, k8, k9, k10, k11, kf, e0, ef, bodyPostS, results, Tryz.results55]
  rfl

set_option maxRecDepth 100000 in
theorem catch_idle (a b : Addr) (w : World) :
    CallsD Tryz.prog 55 #[.pointer (some a), .pointer (some b)] .returning w fun e u' w' => e = .returned (.tuple #[]) ∧ u' = .returning ∧ w' = w := by
  refine callsD_of_wpS Tryz.func55 rfl fun c₀ cs hu => ?_
  apply wpS_seq
  apply wpS_region
  simp [wpOpsS, go_sem, recoverD, hu, Tryz.ntmps55, Exit.thenS]
  refine wpS_cond (t := false) (by simp [Act.eval, Array.replicate]) ?_
  simp only [Bool.false_eq_true, if_false]
  refine wpS_of_wp (wp_skip ?_)
  cases c₀
  simp_all [bodyPostS, results, Tryz.results55]
end Go.Proofs.YtakaadcpaeiccabGreat

namespace Go.Proofs.YtakaadcpaeiccabGreat
open Go.RowKit

/-- What Decode answers. -/
def DecodeP (xs : List Int) (W : World) (e : Ending) (w' : World) : Prop :=
  Below W.heap.size W w' ∧ ((isF xs = true ∧ ∃ v, e = .returned (.tuple #[v, .int .i64 0]) ∧ Reads xs v w' W.heap.size) ∨ (isF xs = false ∧ e = .returned (.tuple #[Pkt.zero.val, .int .i64 1])))

theorem HoldsA.farO {W : World} {ao : Option Addr} {L : List (Int × Int)} {N : Nat} (h : HoldsA W ao L) (hf : ∀ b, ao = some b → N ≤ b.block) {a : Addr} (ha : a.block < N) (v : Value) : HoldsA (W.setCell a v) ao L := by
  intro j hj
  obtain ⟨lb, lo, d, s, h1, h2, h3, h4, h5, h6, h7, h8, h9⟩ := h j hj
  have hb := hf _ h1
  have hne : lb ≠ a.block := by have : N ≤ lb := hb; omega
  exact ⟨lb, lo, d, s, h1, by simpa using h2, h3, h4, h5, h6, h7, (setCell_far W a _ v hne).trans h8, (setCell_far W a _ v hne).trans h9⟩
theorem storeO_holds {W : World} {ao : Option Addr} {C : Nat} {L : List (Int × Int)} {N : Nat} (h : HoldsA W ao L) (hf : ∀ b, ao = some b → N ≤ b.block) (hC : C < N) (p : Pkt) : HoldsA (store12 W C p) ao L :=
  HoldsA.farO (HoldsA.farO (HoldsA.farO (HoldsA.farO (HoldsA.farO (HoldsA.farO (HoldsA.farO (HoldsA.farO (HoldsA.farO (HoldsA.farO (HoldsA.farO (HoldsA.farO h hf (a := ⟨C, 0, none⟩) hC _) hf (a := ⟨C, 1, none⟩) hC _) hf (a := ⟨C, 2, none⟩) hC _) hf (a := ⟨C, 3, none⟩) hC _) hf (a := ⟨C, 4, none⟩) hC _) hf (a := ⟨C, 5, none⟩) hC _) hf (a := ⟨C, 6, none⟩) hC _) hf (a := ⟨C, 7, none⟩) hC _) hf (a := ⟨C, 8, none⟩) hC _) hf (a := ⟨C, 9, none⟩) hC _) hf (a := ⟨C, 10, none⟩) hC _) hf (a := ⟨C, 11, none⟩) hC _

theorem below_storeB {A B : World} {C N : Nat} (h : Below N A B) (hC : N ≤ C) (p : Pkt) : Below N A (store12 B C p) :=
  ((((((((((((((((((((((((h).setCell (p := ⟨C, 0, none⟩) hC _)).setCell (p := ⟨C, 1, none⟩) hC _)).setCell (p := ⟨C, 2, none⟩) hC _)).setCell (p := ⟨C, 3, none⟩) hC _)).setCell (p := ⟨C, 4, none⟩) hC _)).setCell (p := ⟨C, 5, none⟩) hC _)).setCell (p := ⟨C, 6, none⟩) hC _)).setCell (p := ⟨C, 7, none⟩) hC _)).setCell (p := ⟨C, 8, none⟩) hC _)).setCell (p := ⟨C, 9, none⟩) hC _)).setCell (p := ⟨C, 10, none⟩) hC _)).setCell (p := ⟨C, 11, none⟩) hC _)
theorem store_far (W : World) {C : Nat} (p : Pkt) {k : Nat} (hk : k ≠ C) : (store12 W C p).heap[k]? = W.heap[k]? := by
  have f := fun (w : World) (i : Nat) (v : Value) => Below.heap_setCell w ⟨C, i, none⟩ v k hk
  simp only [store12, f]

set_option maxRecDepth 100000 in
set_option maxHeartbeats 4000000 in
theorem Decode_of (hpk : ∀ (R : Nat) (xs : List Int) (W : World), Rd R xs W → Calls Tryz.prog 56 #[.pointer (some ⟨R, 0, none⟩)] W fun e w' => PacketP R xs W e w')
    (v : Value) (xs : List Int) (W : World) (hv : RestV W v xs) :
    Calls Tryz.prog 22 #[v] W fun e w' => DecodeP xs W e w' := by
  have hmf : ∀ (fn : Fn) (first cap : Array Value) (w : World), (Instr.makeFunc fn first cap).run Tryz.prog w = .ok (.func fn first cap) w := fun _ _ _ _ => rfl
  obtain ⟨a, n, c, rfl⟩ : ∃ a n c, v = .slice a n c := by
    rcases hv.2 with ⟨rfl, _⟩ | ⟨_, _, _, rfl, _⟩
    · exact ⟨_, _, _, rfl⟩
    · exact ⟨_, _, _, rfl⟩
  go_enter_defers Tryz.func22, Tryz.ntmps22
  go_wp2_with fail
  have hb3 : Below W.heap.size W (((W.alloc Pkt.zero.box).alloc (.cells #[.int .i64 0] 47)).alloc (.cells #[.slice a n c] 141)) :=
    (((Below.refl W.heap.size W).alloc (Nat.le_refl _) _).alloc (by simp) _).alloc (by simp; omega) _
  have hC : PB Pkt.zero W.heap.size (((W.alloc Pkt.zero.box).alloc (.cells #[.int .i64 0] 47)).alloc (.cells #[.slice a n c] 141)) := ((PB.new Pkt.zero W).alloc _).alloc _
  have hE : (((W.alloc Pkt.zero.box).alloc (.cells #[.int .i64 0] 47)).alloc (.cells #[.slice a n c] 141)).heap[W.heap.size + 1]? = some (.cells #[.int .i64 0] 47 (0, 0)) := by
    rw [Below.heap_alloc _ _ _ (by simp)]
    have := heap_alloc_new (W.alloc Pkt.zero.box) (.cells #[.int .i64 0] 47)
    rwa [World.size_alloc] at this
  have hRh : (((W.alloc Pkt.zero.box).alloc (.cells #[.int .i64 0] 47)).alloc (.cells #[.slice a n c] 141)).heap[W.heap.size + 1 + 1]? = some (.cells #[.slice a n c] 141 (0, 0)) := by
    have := heap_alloc_new ((W.alloc Pkt.zero.box).alloc (.cells #[.int .i64 0] 47)) (.cells #[.slice a n c] 141)
    rwa [World.size_alloc, World.size_alloc] at this
  have hrd : Rd (W.heap.size + 1 + 1) xs (((W.alloc Pkt.zero.box).alloc (.cells #[.int .i64 0] 47)).alloc (.cells #[.slice a n c] 141)) :=
    ⟨_, cell_of_row _ _ 0 _ _ _ hRh, frozen_of_row _ _ 0 _ _ hRh, hv.kept hb3⟩
  dsimp only [Pkt.box, Pkt.zero] at hb3 hC hE hrd
  generalize World.alloc _ _ = W3 at hb3 hC hE hrd ⊢
  clear hRh hv
  have hsz3 := hrd.lt
  refine (hpk _ xs _ hrd).mono ?_
  rintro e w1 ⟨hg, ⟨hF, pv, rfl, hRd⟩ | ⟨hF, rfl⟩⟩
  · obtain ⟨x0, x1, x2, x3, x4, r, ao, c', hxs, hpv, hlen, hA, hfr⟩ := hRd
    obtain ⟨q, hq⟩ : ∃ q : Pkt, q = { pkOf x0 x1 x2 x4 r with la := ao, lc := c' } := ⟨_, rfl⟩
    rw [← hq] at hpv
    subst hpv
    have hq' := (show Hid _ from hq)
    clear hq
    have hC1 := hC.grown hg (by omega)
    have hE1 := (hg.block (W.heap.size + 1) (Array.getElem?_eq_some_iff.1 hE).1 (by simp)).trans hE
    have hB1 : Below W.heap.size W w1 := hb3.trans ⟨hg.os, hg.tape, hg.output, hg.size, fun k hk => hg.block k (by omega) (by simp; omega)⟩
    have hF1 := hC1.storeAll q
    have hB2 : Below W.heap.size W ((store12 w1 W.heap.size q).setCell ⟨W.heap.size + 1, 0, none⟩ (.int .i64 0)) :=
      (below_storeB hB1 (Nat.le_refl _) q).setCell (p := ⟨W.heap.size + 1, 0, none⟩) (by simp) _
    have hF2 : PB q W.heap.size ((store12 w1 W.heap.size q).setCell ⟨W.heap.size + 1, 0, none⟩ (.int .i64 0)) := hF1.other (a := ⟨W.heap.size + 1, 0, none⟩) (by simp) _
    obtain ⟨k0, k1, k2, k3, k4, k5, k6, k7, k8, k9, k10, k11⟩ := hC1.cell
    dsimp only at k0 k1 k2 k3 k4 k5 k6 k7 k8 k9 k10 k11
    have kf := hC1.free
    have e0 : w1.cell? ⟨W.heap.size + 1, 0, none⟩ = some (.int .i64 0) := cell_of_row w1 _ 0 _ _ _ hE1
    have ef : w1.frozen? ⟨W.heap.size + 1, 0, none⟩ = false := frozen_of_row w1 _ 0 _ _ hE1
    have hA2 : HoldsA ((store12 w1 W.heap.size q).setCell ⟨W.heap.size + 1, 0, none⟩ (.int .i64 0)) ao (lsOf x1 x4 r) := (storeO_holds hA hfr (by omega) q).farO hfr (a := ⟨W.heap.size + 1, 0, none⟩) (by simp; omega) _
    have hE2 : ((store12 w1 W.heap.size q).setCell ⟨W.heap.size + 1, 0, none⟩ (.int .i64 0)).cell? ⟨W.heap.size + 1, 0, none⟩ = some (.int .i64 0) := by
      have hs : (store12 w1 W.heap.size q).heap[W.heap.size + 1]? = w1.heap[W.heap.size + 1]? := store_far w1 q (by omega)
      have hpre : (store12 w1 W.heap.size q).cell? ⟨W.heap.size + 1, 0, none⟩ = some (.int .i64 0) := cell_of_row _ _ 0 _ _ _ (hs.trans hE1)
      exact World.cell?_setCell_same _ _ _ hpre
    clear hC hE hb3 hg hA hB1 hF1 hE1 hrd
    go_wp2
    dsimp only [store12] at hF2 hB2 hA2 hE2
    generalize World.setCell _ _ _ = wF at hF2 hB2 hA2 hE2 ⊢
    clear k0 k1 k2 k3 k4 k5 k6 k7 k8 k9 k10 k11 kf e0 ef
    obtain ⟨k0, k1, k2, k3, k4, k5, k6, k7, k8, k9, k10, k11⟩ := hF2.cell
    refine leaves_cons (f := 55) (args := #[.pointer (some ⟨W.heap.size, 0, none⟩), .pointer (some ⟨W.heap.size + 1, 0, none⟩)]) (by simp) (by simp [go_sem]) ?_
    refine (catch_idle _ _ _).mono ?_
    rintro e u' w'' ⟨rfl, rfl, rfl⟩
    have hpost : DecodeP xs W (.returned (.tuple #[q.val, .int .i64 0])) w'' :=
      ⟨hB2, .inl ⟨hF, _, rfl, x0, x1, x2, x3, x4, r, ao, c', hxs, by rw [hq'.out], hlen, hA2, fun b hb => Nat.le_trans (by omega) (hfr b hb)⟩⟩
    simp [Leaves, settle, results, Tryz.results22, go_sem, k0, k1, k2, k3, k4, k5, k6, k7, k8, k9, k10, k11, hE2]
    exact hpost
  · have hC1 := hC.grown hg (by omega)
    have hE1 := (hg.block (W.heap.size + 1) (Array.getElem?_eq_some_iff.1 hE).1 (by simp)).trans hE
    have hB1 : Below W.heap.size W w1 := hb3.trans ⟨hg.os, hg.tape, hg.output, hg.size, fun k hk => hg.block k (by omega) (by simp; omega)⟩
    show bodyPostD Tryz.prog Tryz.f22 _ (Exit.panic broken) _ w1
    refine leaves_cons (f := 55) (args := #[.pointer (some ⟨W.heap.size, 0, none⟩), .pointer (some ⟨W.heap.size + 1, 0, none⟩)]) (by simp) (by simp [go_sem]) ?_
    refine (catch_panicking W.heap.size (W.heap.size + 1) (by omega) _ 0 47 _ [] _ hC1 hE1).mono ?_
    rintro e u' w'' ⟨rfl, rfl, rfl⟩
    have hF2 : PB Pkt.zero W.heap.size ((store12 w1 W.heap.size Pkt.zero).setCell ⟨W.heap.size + 1, 0, none⟩ (.int .i64 1)) := (hC1.storeAll Pkt.zero).other (a := ⟨W.heap.size + 1, 0, none⟩) (by simp) _
    have hs : (store12 w1 W.heap.size Pkt.zero).heap[W.heap.size + 1]? = w1.heap[W.heap.size + 1]? := store_far w1 Pkt.zero (by omega)
    have hpre : (store12 w1 W.heap.size Pkt.zero).cell? ⟨W.heap.size + 1, 0, none⟩ = some (.int .i64 0) := cell_of_row _ _ 0 _ _ _ (hs.trans hE1)
    have hE2 := World.cell?_setCell_same _ ⟨W.heap.size + 1, 0, none⟩ (.int .i64 1) hpre
    have hB2 : Below W.heap.size W ((store12 w1 W.heap.size Pkt.zero).setCell ⟨W.heap.size + 1, 0, none⟩ (.int .i64 1)) := (below_storeB hB1 (Nat.le_refl _) Pkt.zero).setCell (p := ⟨W.heap.size + 1, 0, none⟩) (by simp) _
    generalize (store12 w1 W.heap.size Pkt.zero).setCell ⟨W.heap.size + 1, 0, none⟩ (.int .i64 1) = wF at hF2 hE2 hB2 ⊢
    obtain ⟨k0, k1, k2, k3, k4, k5, k6, k7, k8, k9, k10, k11⟩ := hF2.cell
    have hpost : DecodeP xs W (.returned (.tuple #[Pkt.zero.val, .int .i64 1])) wF := ⟨hB2, .inr ⟨hF, rfl⟩⟩
    simp [Leaves, settle, results, Tryz.results22, go_sem, k0, k1, k2, k3, k4, k5, k6, k7, k8, k9, k10, k11, hE2]
    exact hpost
end Go.Proofs.YtakaadcpaeiccabGreat
