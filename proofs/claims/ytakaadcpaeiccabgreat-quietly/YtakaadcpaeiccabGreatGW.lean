import Derived.Test.YtakaadcpaeiccabGreatGB
import Derived.Deep.CutRange
import Derived.Deep.QuietTactic
import Derived.BigQuiet
namespace Go.Proofs.YtakaadcpaeiccabGreat
open Go.RowKit

set_option maxHeartbeats 1000000 in
theorem Encode_bad (p : Pkt) (hp : p.Wf) (hg : p.goodB = false) (w : World) :
    Calls Tryz.prog 117 #[p.val] w fun e w' => e = .returned (.tuple #[.slice none 0 0, .int .i64 1]) ∧ Below w.heap.size w w' := by
  go_enter Tryz.func117, Tryz.ntmps117
  go_wp2_with (go_at_call 90; refine (isPacket_any p hp _).mono ?_; rintro e w1 ⟨rfl, hb1⟩)
  go_ret2
  exact ⟨rfl, ((Below.refl _ _).alloc (Nat.le_refl _) _).trans (hb1.mono (by simp))⟩

/-- The cells of a list of what is lost. -/
def HoldsL (w : World) (p : Pkt) (L : List (Int × Int)) : Prop :=
  L.length = p.ln ∧ ∀ j, j < L.length → ∃ lb lo d s, p.la = some ⟨lb, lo, none⟩ ∧ lb < w.heap.size ∧ L[j]? = some (d, s) ∧ 0 ≤ d ∧ d < 4294967296 ∧ 0 ≤ s ∧ s < 4294967296 ∧
    w.cell? ⟨lb, lo + j * 2, none⟩ = some (.int .u32 d) ∧ w.cell? ⟨lb, lo + j * 2 + 1, none⟩ = some (.int .u32 s)

def flagB (p : Pkt) : Int := if p.unk then 8 else 0
theorem flags_f (p : Pkt) (w : World) :
    Calls Tryz.prog 151 #[p.val] w fun e w' => e = .returned (.int .u8 (flagB p)) ∧ Below w.heap.size w w' := flags_any p w
def Pkt.head (p : Pkt) : List Int := [p.ttl, p.kind, flagB p, 0, p.cnt]

/-- The frame of a packet. -/
def encB (p : Pkt) (L : List (Int × Int)) : List Int := p.head ++ p.numB p.nums.length ++ lostB L L.length ++ strNums p.pay

set_option maxHeartbeats 2000000 in
theorem Encode_good (p : Pkt) (hp : p.Wf) (hg : p.goodB = true) (ht0 : 1 ≤ p.ttl) (ht1 : p.ttl ≤ 255) (hk0 : 1 ≤ p.kind) (hk1 : p.kind ≤ 9) (hc0 : 0 ≤ p.cnt) (hc1 : p.cnt ≤ 255)
    (hln : p.ln ≤ 8) (hpay : p.pay.size ≤ 16)
    (L : List (Int × Int)) (w : World) (hL : HoldsL w p L) :
    Calls Tryz.prog 117 #[p.val] w fun e w' => ∃ v, e = .returned (.tuple #[v, .int .i64 0]) ∧ Below w.heap.size w w' ∧ v ≠ .slice none 0 0 ∧ w'.ownsRow (w.heap.size + 1) 5 1 v (encB p L).length (U (encB p L)) := by
  go_enter Tryz.func117, Tryz.ntmps117
  go_wp2_with (go_at_call 90; refine (isPacket_any p hp _).mono ?_; rintro e w1 ⟨rfl, hb1⟩)
  have ht0' : 0 ≤ p.ttl := by omega
  have hk0' : 0 ≤ p.kind := by omega
  have hk1' : p.kind ≤ 255 := by omega
  have hI := (InB.start0 p w).below hb1
  clear hb1
  go_region_held3 (InB p w) (first | exact InB.drew' (by assumption) | assumption | exact InB.below (by assumption) (by assumption) | exact InB.below (by assumption) ((Below.refl _ _).alloc (Nat.le_refl _) _)) (first
    | (go_at_call 151; refine (flags_f p _).mono ?_; rintro e w2 ⟨rfl, hb2⟩)
    | (go_at_call 126; refine (count_any p _).mono ?_; rintro e w3 ⟨rfl, hb3⟩))
  rename_i hI3
  rw [IntWalk.u8_in _ ⟨ht0', ht1⟩, IntWalk.u8_in _ ⟨hk0', hk1'⟩, IntWalk.u8_in _ ⟨hc0, hc1⟩] at hI3 ⊢
  have hz3 : w.heap.size + 1 ≤ w3.heap.size := by
    obtain ⟨_, _, _, _, _, _, _, _, _, _, _, _, hs, _⟩ := hI
    have h2 := hb2.size
    have h3 := hb3.size
    simp only [World.size_drew] at h2
    omega
  have own0 := own_head (w.heap.size + 1) w3 p.ttl p.kind (flagB p) 0 p.cnt hz3
  clear hI hb2 hb3
  have hnn : (Value.slice (some ⟨w3.heap.size, 0, none⟩) 5 5) ≠ .slice none 0 0 := by simp
  generalize w3.alloc _ = W3 at hI3 own0 ⊢
  generalize Value.slice (some ⟨w3.heap.size, 0, none⟩) 5 5 = b0 at own0 hnn ⊢
  clear hz3
  have hkc := hI3.2.1
  go_wp2_with (go_at_call 86; refine (numbers_any p _ _ hkc).mono ?_; rintro e w4 ⟨ao, rfl, hb4, hptr⟩)
  have hE0 : EncInv p w ao w4 b0 (p.head ++ p.numB 0) := by
    have hI3' := hI3
    obtain ⟨_, _, _, _, _, _, _, _, _, _, _, _, hs, hB⟩ := hI3'
    have hg : W3.grownBy w4 none := ⟨hb4.os, hb4.tape, hb4.output, hb4.size, fun k hk _ => hb4.block k hk⟩
    refine ⟨hI3.below hb4, ?_, hnn, fun j hj => ?_⟩
    · simp only [Pkt.numB, List.take_zero, List.flatMap_nil, List.append_nil]
      exact own0.kept hg (by cases hv : b0.ownBlock <;> simp)
    · obtain ⟨N, h1, h2, h3⟩ := hptr j hj
      exact ⟨N, h1, by omega, h3⟩
  clear hI3 own0 hnn hptr hb4 hkc
  have hn5 := nums_len p
  go_loopw [4, 26] (fun b i wr => ∃ k : Nat, k ≤ p.nums.length ∧ i = .int .i64 k ∧ EncInv p w ao wr b (p.head ++ p.numB k)) (fun _ i _ => p.nums.length - (intOf i).toNat)
  case atStart => exact ⟨0, Nat.zero_le _, rfl, hE0⟩
  case round =>
    clear hE0
    obtain ⟨k, hk, rfl, hE⟩ := hrel
    by_cases hlt : k < p.nums.length
    · obtain ⟨o, x, hox, hcx, hx0, hx1⟩ := nums_cell hp hE.inb k hlt
      obtain ⟨N, rfl, hNk⟩ := hE.ptrCell k hlt hox
      have hlen : (p.head ++ p.numB k).length ≤ 1000000 := by
        have := numB_len p k
        simp only [List.length_append, Pkt.head, List.length_cons, List.length_nil]
        omega
      have hst : Hid (p.numB (k + 1) = p.numB k ++ b4 x) := numB_succ hox
      clear hox
      go_wp2_with (go_at_call 57; refine (appendNumber_any (w.heap.size + 1) _ x (p.head ++ p.numB k) _ hx0 hx1 hE.own hE.nn hE.base hlen).mono ?_; rintro e w5 ⟨v', rfl, hown', hgrow, hnn'⟩)
      go_roundw
      case rel => exact ⟨k + 1, by omega, by go_num, by rw [hst.out, ← List.append_assoc]; exact hE.step hgrow hown' hnn'⟩
      case measure => simp [intOf]; omega
    · obtain rfl : k = p.nums.length := by omega
      obtain ⟨_, _, _, _, _, _, _, _, _, _, c10, c11, hs, hB⟩ := id hE.inb
      clear hk hlt
      go_wp2_with fail
      generalize hla : p.la = la
      have hE1 : EncInv p w ao wr u4 (p.head ++ p.numB p.nums.length ++ lostB L 0) := by
        simpa only [lostB, List.take_zero, List.flatMap_nil, List.append_nil] using hE
      clear hE c10 c11 hs hB
      go_loopw [4, 39] (fun b i wx => ∃ k : Nat, k ≤ p.ln ∧ i = .int .i64 k ∧ EncInv p w ao wx b (p.head ++ p.numB p.nums.length ++ lostB L k)) (fun _ i _ => p.ln - (intOf i).toNat)
      case atStart => exact ⟨0, Nat.zero_le _, rfl, hE1⟩
      case round =>
        clear hE1
        obtain ⟨k, hk, rfl, hE⟩ := hrel
        by_cases hlt : k < p.ln
        · obtain ⟨hLn, hLc⟩ := hL
          obtain ⟨lb, lo, d, s, hpa, hlb, hds, hd0, hd1, hs0, hs1, hcd, hcs⟩ := hLc k (by omega)
          obtain rfl : la = some ⟨lb, lo, none⟩ := hla.symm.trans hpa
          have hB := hE.inb.2.2.2.2.2.2.2.2.2.2.2.2.2
          have hlen : (p.head ++ p.numB p.nums.length ++ lostB L k).length ≤ 900000 := by
            have := numB_len p p.nums.length
            have := lostB_len L k
            simp only [List.length_append, Pkt.head, List.length_cons, List.length_nil]
            omega
          have hst : Hid (lostB L (k + 1) = lostB L k ++ b4 d ++ b4 s) := lostB_succ hds
          have hcd' : wr.cell? ⟨lb, lo + k * 2, none⟩ = some (.int .u32 d) := (hB.cell (p := ⟨lb, lo + k * 2, none⟩) hlb).trans hcd
          have hcs' : wr.cell? ⟨lb, lo + k * 2 + 1, none⟩ = some (.int .u32 s) := (hB.cell (p := ⟨lb, lo + k * 2 + 1, none⟩) hlb).trans hcs
          have hEa := (hE.alloc (.cells #[.int .u32 d, .int .u32 s] 237)).drew
          clear hds hpa hla hcd hcs hLc hLn hB
          go_wp2_with fail
          go_region_held3 (LBlk wr.heap.size d s) (first | exact LBlk.start _ _ _ | assumption | exact LBlk.grown (by assumption) hown5 hgrow6 | exact LBlk.grown (by assumption) hEa.own hgrow5) (first
            | (go_at_call_of 57 (Value.int IntKind.u32 d); refine (appendNumber_any (w.heap.size + 1) _ d (p.head ++ p.numB p.nums.length ++ lostB L k) _ hd0 hd1 hEa.own hEa.nn hEa.base (by omega)).mono ?_; rintro e w5 ⟨v5, rfl, hown5, hgrow5, hnn5⟩)
            | (go_at_call_of 57 (Value.int IntKind.u32 s); refine (appendNumber_any (w.heap.size + 1) _ s (p.head ++ p.numB p.nums.length ++ lostB L k ++ b4 d) _ hs0 hs1 hown5 hnn5 (hEa.step hgrow5 hown5 hnn5).base (by rw [List.length_append, b4_length]; omega)).mono ?_; rintro e w6 ⟨v6, rfl, hown6, hgrow6, hnn6⟩))
          have hE6 := (hEa.step hgrow5 hown5 hnn5).step hgrow6 hown6 hnn6
          clear hown5 hgrow5 hnn5 hown6 hgrow6 hnn6 hEa hE
          go_wp2
          go_roundw
          case rel => exact ⟨k + 1, by omega, by go_num, by rw [hst.out, ← List.append_assoc, ← List.append_assoc]; exact hE6⟩
          case measure => simp [intOf]; omega
        · obtain rfl : k = p.ln := by omega
          obtain ⟨_, _, _, _, _, _, _, _, _, _, c10, c11, hs, hB⟩ := id hE.inb
          obtain ⟨i0, hi, hz0, hz1, hz2⟩ := info_parts info_u8
          have hlen : (p.head ++ p.numB p.nums.length ++ lostB L p.ln).length ≤ 900000 := by
            have := numB_len p p.nums.length
            have := lostB_len L p.ln
            have := hL.1
            simp only [List.length_append, Pkt.head, List.length_cons, List.length_nil]
            omega
          have hbase := hE.base
          have hlt0 := hE.own.lt
          clear hk hlt hla
          go_wp2_with (at_builtin; refine wpList_append_own_src _ rfl _ _ 58 9 rfl (w.heap.size + 1) 5 i0 (.int .u8 0) 1 1 Tryz.underlying58 hi hz0 hz1 hz2 rfl _ (p.head ++ p.numB p.nums.length ++ lostB L p.ln).length (U (p.head ++ p.numB p.nums.length ++ lostB L p.ln)) rfl hE.own hE.nn _ p.pay.size (byteCells p.pay) rfl (Src.ofString _ Tryz.underlying9 p.pay) ?c1 ?c2 ?c3 ?_)
          case c1 => unfold maxLen; omega
          case c2 => omega
          case c3 => exact hbase
          intro v' w7 hown' hgrow hnn'
          go_wp2
          go_ret2
          refine ⟨v', rfl, hB.grown hgrow (Nat.le_of_lt hs) (fun k hk => Nat.le_of_succ_le (hlt0 k hk).1), hnn', ?_⟩
          have hLn : L.length = p.ln := hL.1
          rw [byteCells_U, U_append] at hown'
          have he : encB p L = p.head ++ p.numB p.nums.length ++ lostB L p.ln ++ strNums p.pay := by
            simp only [encB, hLn]
          rw [he]
          simpa only [List.length_append, List.append_assoc, strNums_length, Nat.add_assoc] using hown'
end Go.Proofs.YtakaadcpaeiccabGreat

namespace Go.Proofs.YtakaadcpaeiccabGreat
open Go.RowKit

/-- What a packet has of what its kind has. -/
def Pkt.ownP (p : Pkt) : Pkt :=
  if p.kind = 1 then ⟨p.ttl, 1, p.hops, p.unk, p.id, p.dest, if p.unk then 0 else p.dseq, p.frm, p.fseq, 0, none, 0, 0, ⟨#[]⟩⟩
  else if p.kind = 2 then ⟨p.ttl, 2, p.hops, false, 0, p.dest, p.dseq, p.frm, 0, p.life, none, 0, 0, ⟨#[]⟩⟩
  else if p.kind = 3 then ⟨p.ttl, 3, 0, false, 0, 0, 0, 0, 0, 0, p.la, p.ln, p.lc, ⟨#[]⟩⟩
  else if p.kind = 9 then ⟨p.ttl, 9, 0, false, p.id, p.dest, 0, p.frm, 0, 0, none, 0, 0, p.pay⟩
  else ⟨p.ttl, p.kind, 0, false, 0, 0, 0, 0, 0, 0, none, 0, 0, ⟨#[]⟩⟩

end Go.Proofs.YtakaadcpaeiccabGreat

namespace Go.Proofs.YtakaadcpaeiccabGreat
open Go.RowKit

def alikeB (p q : Pkt) : Bool :=
  decide (p.ttl = q.ttl ∧ p.kind = q.kind ∧ p.hops = q.hops ∧ p.unk = q.unk ∧ p.id = q.id ∧ p.dest = q.dest ∧ p.dseq = q.dseq ∧ p.frm = q.frm ∧ p.fseq = q.fseq ∧ p.life = q.life ∧ p.pay = q.pay)

/-- A packet's cells in a block. -/
@[reducible] def InC (p : Pkt) (b : Nat) (W : World) : Prop :=
  W.cell? ⟨b, 0, none⟩ = some (.int .i64 p.ttl) ∧ W.cell? ⟨b, 1, none⟩ = some (.int .i64 p.kind) ∧ W.cell? ⟨b, 2, none⟩ = some (.int .i64 p.hops) ∧
  W.cell? ⟨b, 3, none⟩ = some (.bool p.unk) ∧ W.cell? ⟨b, 4, none⟩ = some (.int .u32 p.id) ∧ W.cell? ⟨b, 5, none⟩ = some (.int .u32 p.dest) ∧
  W.cell? ⟨b, 6, none⟩ = some (.int .u32 p.dseq) ∧ W.cell? ⟨b, 7, none⟩ = some (.int .u32 p.frm) ∧ W.cell? ⟨b, 8, none⟩ = some (.int .u32 p.fseq) ∧
  W.cell? ⟨b, 9, none⟩ = some (.int .u32 p.life) ∧ W.cell? ⟨b, 10, none⟩ = some (.slice p.la p.ln p.lc) ∧ W.cell? ⟨b, 11, none⟩ = some (.string p.pay)

theorem InC.new (p : Pkt) (w : World) : InC p w.heap.size (w.alloc p.box) :=
  ⟨World.cell?_alloc_new w _ _ _, World.cell?_alloc_new w _ _ _, World.cell?_alloc_new w _ _ _, World.cell?_alloc_new w _ _ _, World.cell?_alloc_new w _ _ _, World.cell?_alloc_new w _ _ _,
   World.cell?_alloc_new w _ _ _, World.cell?_alloc_new w _ _ _, World.cell?_alloc_new w _ _ _, World.cell?_alloc_new w _ _ _, World.cell?_alloc_new w _ _ _, World.cell?_alloc_new w _ _ _⟩

theorem InC.below {p : Pkt} {b B : Nat} {W W1 : World} (h : InC p b W) (hb : Below B W W1) (hlt : b < B) : InC p b W1 := by
  obtain ⟨c0, c1, c2, c3, c4, c5, c6, c7, c8, c9, c10, c11⟩ := h
  have k : ∀ i, W1.cell? ⟨b, i, none⟩ = W.cell? ⟨b, i, none⟩ := fun i => hb.cell (p := ⟨b, i, none⟩) hlt
  exact ⟨(k _).trans c0, (k _).trans c1, (k _).trans c2, (k _).trans c3, (k _).trans c4, (k _).trans c5, (k _).trans c6, (k _).trans c7, (k _).trans c8, (k _).trans c9, (k _).trans c10, (k _).trans c11⟩

/-- What alike's loop holds on to. -/
structure AlInv (p q : Pkt) (w wr : World) : Prop where
  a : InC p w.heap.size wr
  b : InC q (w.heap.size + 1) wr
  below : Below w.heap.size w wr

theorem AlInv.start (p q : Pkt) (w : World) : AlInv p q w ((w.alloc p.box).alloc q.box) := by
  refine ⟨(InC.new p w).below (B := w.heap.size + 1) ((Below.refl _ _).alloc (by simp) _) (by omega), ?_, ((Below.refl _ _).alloc (Nat.le_refl _) _).alloc (by simp) _⟩
  have h := InC.new q (w.alloc p.box)
  rw [World.size_alloc] at h
  exact h
theorem AlInv.drewN {p q : Pkt} {w wr : World} (h : AlInv p q w wr) (n : Nat) : AlInv p q w (wr.drewN n) := ⟨h.a, h.b, below_drewN h.below n⟩

end Go.Proofs.YtakaadcpaeiccabGreat

namespace Go.Proofs.YtakaadcpaeiccabGreat
open Go.RowKit

end Go.Proofs.YtakaadcpaeiccabGreat

namespace Go.Proofs.YtakaadcpaeiccabGreat
open Go.RowKit

end Go.Proofs.YtakaadcpaeiccabGreat

namespace Go.Proofs.YtakaadcpaeiccabGreat
open Go.RowKit

end Go.Proofs.YtakaadcpaeiccabGreat

namespace Go.Proofs.YtakaadcpaeiccabGreat
open Go.RowKit

end Go.Proofs.YtakaadcpaeiccabGreat

namespace Go.Proofs.YtakaadcpaeiccabGreat
open Go.RowKit

end Go.Proofs.YtakaadcpaeiccabGreat

namespace Go.Proofs.YtakaadcpaeiccabGreat
open Go.RowKit

end Go.Proofs.YtakaadcpaeiccabGreat

namespace Go.Proofs.YtakaadcpaeiccabGreat
open Go.RowKit

theorem bytes_beq (a b : ByteArray) : (a.toList == b.toList) = decide (a = b) := by
  rw [Bool.eq_iff_iff, beq_iff_eq, decide_eq_true_iff]
  constructor
  · intro h
    rw [ByteArray.toList_eq, ByteArray.toList_eq] at h
    apply ByteArray.ext
    exact Array.toList_inj.1 h
  · rintro rfl; rfl

/-- Has the packet nothing but what its kind has? -/
def Pkt.likeB (p : Pkt) : Bool := decide (p.ln = p.ownP.ln) && alikeB p p.ownP

def Pkt.kindB (p : Pkt) : Bool := decide (p.kind = 1 ∨ p.kind = 2 ∨ p.kind = 9 ∨ (p.kind = 3 ∧ 1 ≤ p.ln ∧ p.ln ≤ 8))

/-- The document's answer and the program's ask the same of a packet. -/
theorem good_like (p : Pkt) : p.goodB = (p.likeB && decide (1 ≤ p.ttl ∧ p.ttl ≤ 255) && decide (0 ≤ p.hops ∧ p.hops ≤ 255) && decide (p.pay.size ≤ 16) && p.kindB) := by
  have hz : ∀ s : ByteArray, s = ⟨#[]⟩ ↔ s.size = 0 := fun s => ⟨fun h => by rw [h]; rfl, fun h => ByteArray.ext (Array.eq_empty_of_size_eq_zero h)⟩
  rw [Bool.eq_iff_iff]
  unfold Pkt.goodB Pkt.likeB Pkt.kindB alikeB
  have hs0 : (⟨#[]⟩ : ByteArray).size = 0 := rfl
  have he : ∀ s : ByteArray, s = ByteArray.empty ↔ s.size = 0 := hz
  by_cases h1 : p.kind = 1
  · simp only [Pkt.forP, Pkt.ownP, Pkt.cnt, fitsB, Pkt.blankB, h1, hz, if_true]
    cases p.unk <;> simp <;> grind
  by_cases h2 : p.kind = 2
  · simp [Pkt.forP, Pkt.ownP, Pkt.cnt, fitsB, Pkt.blankB, h2, hz]
    cases p.unk <;> simp <;> grind
  by_cases h3 : p.kind = 3
  · simp [Pkt.forP, Pkt.ownP, Pkt.cnt, fitsB, Pkt.blankB, h3, hz]
    cases p.unk <;> simp <;> grind
  by_cases h9 : p.kind = 9
  · simp [Pkt.forP, Pkt.ownP, Pkt.cnt, fitsB, Pkt.blankB, h9, hs0]
    cases p.unk <;> simp <;> grind
  · simp [Pkt.forP, Pkt.ownP, fitsB, Pkt.blankB, h1, h2, h3, h9]

end Go.Proofs.YtakaadcpaeiccabGreat

namespace Go.Proofs.YtakaadcpaeiccabGreat
open Go.RowKit

theorem strOfNums_append (a b : List Int) : strOfNums a ++ strOfNums b = strOfNums (a ++ b) := by
  apply ByteArray.ext
  simp [strOfNums, ByteArray.data_append]
theorem strOfNums_strNums (s : ByteArray) : strOfNums (strNums s) = s := by
  apply ByteArray.ext
  apply Array.ext'
  simp only [strOfNums, strNums, List.map_map]
  rw [List.map_congr_left (g := id) (fun b _ => by simp)]
  simp

theorem HoldsL.below {w w' : World} {p : Pkt} {L : List (Int × Int)} (h : HoldsL w p L) (hb : Below w.heap.size w w') : HoldsL w' p L := by
  refine ⟨h.1, fun j hj => ?_⟩
  obtain ⟨lb, lo, d, s, h1, h2, h3, h4, h5, h6, h7, h8, h9⟩ := h.2 j hj
  exact ⟨lb, lo, d, s, h1, Nat.lt_of_lt_of_le h2 hb.size, h3, h4, h5, h6, h7, (hb.cell (p := ⟨lb, lo + j * 2, none⟩) h2).trans h8, (hb.cell (p := ⟨lb, lo + j * 2 + 1, none⟩) h2).trans h9⟩

theorem InB.alloc {p : Pkt} {w W : World} (h : InB p w W) (o : Obj) : InB p w (W.alloc o) := h.below ((Below.refl _ _).alloc (Nat.le_refl _) _)

end Go.Proofs.YtakaadcpaeiccabGreat
