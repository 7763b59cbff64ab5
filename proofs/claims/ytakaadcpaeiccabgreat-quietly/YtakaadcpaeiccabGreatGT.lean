import Derived.Test.YtakaadcpaeiccabGreatGP
import Derived.Test.YtakaadcpaeiccabGreatGR
import Derived.Test.YtakaadcpaeiccabGreatGQ
import Derived.Test.YtakaadcpaeiccabGreatGV
import Derived.Test.YtakaadcpaeiccabGreatB1
namespace Go.Proofs.YtakaadcpaeiccabGreat

theorem b4_n4 {a b c d : Int} (hb : 0 ≤ b ∧ b ≤ 255) (hc : 0 ≤ c ∧ c ≤ 255) (hd : 0 ≤ d ∧ d ≤ 255) : b4 (n4 a b c d) = [a, b, c, d] := by
  unfold b4 n4
  simp only [List.cons.injEq, and_true]
  omega
theorem n4_b4 {n : Int} : n4 (n / 16777216) (n / 65536 % 256) (n / 256 % 256) (n % 256) = n := by
  unfold n4
  omega

/-- Four bytes of a list spell a number, and the number the bytes. -/
theorem b4_num {r : List Int} (hb : ∀ x ∈ r, 0 ≤ x ∧ x ≤ 255) (k : Nat) (h : 4 * k + 4 ≤ r.length) : b4 (num r k) = (r.drop (4 * k)).take 4 := by
  have hx : ∀ j, 4 * k + j < r.length → r.getD (4 * k + j) 0 = (r.drop (4 * k)).getD j 0 := by
    intro j _
    simp [List.getD, List.getElem?_drop]
  have hbd : ∀ x ∈ r.drop (4 * k), 0 ≤ x ∧ x ≤ 255 := fun x hx => hb x (List.mem_of_mem_drop hx)
  have hl : (r.drop (4 * k)).length = r.length - 4 * k := List.length_drop
  unfold num
  rw [show 4 * k = 4 * k + 0 from rfl, hx 0 (by omega), hx 1 (by omega), hx 2 (by omega), hx 3 (by omega), Nat.add_zero]
  generalize r.drop (4 * k) = q at hbd hl
  match q, hl, hbd with
  | [], hl, _ => simp at hl; omega
  | [_], hl, _ => simp at hl; omega
  | [_, _], hl, _ => simp at hl; omega
  | [_, _, _], hl, _ => simp at hl; omega
  | a :: b :: c :: d :: q, _, hbd =>
    show b4 (n4 a b c d) = [a, b, c, d]
    exact b4_n4 (hbd b (by simp)) (hbd c (by simp)) (hbd d (by simp))

theorem take_more (r : List Int) (n : Nat) : r.take n ++ (r.drop n).take 4 = r.take (n + 4) := by
  rw [List.take_add]

theorem lostB_plOf {r : List Int} (hb : ∀ x ∈ r, 0 ≤ x ∧ x ≤ 255) (n : Nat) (h : 8 * n ≤ r.length) : ((plOf n r).flatMap fun x => b4 x.1 ++ b4 x.2) = r.take (8 * n) := by
  induction n with
  | zero => rfl
  | succ n ih =>
    rw [plOf_succ, List.flatMap_append, ih (by omega)]
    simp only [List.flatMap_cons, List.flatMap_nil, List.append_nil]
    rw [b4_num hb (2 * n) (by omega), b4_num hb (2 * n + 1) (by omega), ← List.append_assoc, show 4 * (2 * n) = 8 * n by omega, take_more, show 4 * (2 * n + 1) = 8 * n + 4 by omega, take_more]
    rfl

theorem cnt_flag (p : Pkt) (a : Option Addr) (c : Nat) (L : List (Int × Int)) : encB { p with la := a, lc := c } L = encB p L := rfl

/-- What is read is written again. -/
theorem enc_pkOf {x0 x1 x2 x3 x4 : Int} {r : List Int} (hb : ∀ x ∈ x0 :: x1 :: x2 :: x3 :: x4 :: r, 0 ≤ x ∧ x ≤ 255) (h : isF (x0 :: x1 :: x2 :: x3 :: x4 :: r) = true) :
    encB (pkOf x0 x1 x2 x4 r) (lsOf x1 x4 r) = x0 :: x1 :: x2 :: x3 :: x4 :: r := by
  simp only [isF, Bool.and_eq_true, decide_eq_true_eq] at h
  obtain ⟨⟨⟨hf, rfl⟩, hlen⟩, hg⟩ := h
  obtain ⟨hl, ht0, ht1, hh0, hh1, hpay, hk⟩ := good_parts hg
  obtain ⟨e1, e2, e3, e4⟩ := like_parts hl
  have hbr : ∀ x ∈ r, 0 ≤ x ∧ x ≤ 255 := fun x hx => hb x (by simp [hx])
  have h4 := hb x4 (by simp)
  have hkk : (pkOf x0 x1 x2 x4 r).kind = x1 := by
    unfold pkOf
    split
    · rename_i h; exact h.symm
    split
    · rename_i h; exact h.symm
    split
    · rename_i h; exact h.symm
    split
    · rename_i h; exact h.symm
    · rfl
  rw [hkk] at hk
  have hfl : ∀ (b : Bool), (x2 == 8) = b → (if b then (8 : Int) else 0) = x2 := by
    intro b hb
    rcases hf with rfl | rfl
    · subst hb; rfl
    · subst hb; rfl
  rcases hk with rfl | rfl | rfl | ⟨rfl, hn0, hn1⟩
  · have hl20 : r.length = 20 := hlen
    have hall : b4 (num r 0) ++ b4 (num r 1) ++ b4 (num r 2) ++ b4 (num r 3) ++ b4 (num r 4) = r := by
      rw [b4_num hbr 0 (by omega), b4_num hbr 1 (by omega), b4_num hbr 2 (by omega), b4_num hbr 3 (by omega), b4_num hbr 4 (by omega)]
      simp only [Nat.mul_zero, List.drop_zero, Nat.mul_one, Nat.reduceMul, take_more, Nat.reduceAdd]
      exact List.take_of_length_le (by omega)
    show [x0, 1, (if (x2 == 8) then (8 : Int) else 0), 0, x4] ++ (b4 (num r 0) ++ (b4 (num r 1) ++ (b4 (num r 2) ++ (b4 (num r 3) ++ (b4 (num r 4) ++ []))))) ++ [] ++ [] = _
    rw [hfl _ rfl]
    simp only [List.append_nil, List.append_assoc] at hall ⊢
    rw [hall]
    rfl
  · have hl16 : r.length = 16 := hlen
    have hall : b4 (num r 0) ++ b4 (num r 1) ++ b4 (num r 2) ++ b4 (num r 3) = r := by
      rw [b4_num hbr 0 (by omega), b4_num hbr 1 (by omega), b4_num hbr 2 (by omega), b4_num hbr 3 (by omega)]
      simp only [Nat.mul_zero, List.drop_zero, Nat.mul_one, Nat.reduceMul, take_more, Nat.reduceAdd]
      exact List.take_of_length_le (by omega)
    show [x0, 2, (if (x2 == 8) then (8 : Int) else 0), 0, x4] ++ (b4 (num r 0) ++ (b4 (num r 1) ++ (b4 (num r 2) ++ (b4 (num r 3) ++ [])))) ++ [] ++ [] = _
    rw [hfl _ rfl]
    simp only [List.append_nil, List.append_assoc] at hall ⊢
    rw [hall]
    rfl
  · have hl9 : r.length = 12 + x4.toNat := hlen
    have hall : b4 (num r 0) ++ b4 (num r 1) ++ b4 (num r 2) = r.take 12 := by
      rw [b4_num hbr 0 (by omega), b4_num hbr 1 (by omega), b4_num hbr 2 (by omega)]
      simp only [Nat.mul_zero, List.drop_zero, Nat.mul_one, Nat.reduceMul, take_more, Nat.reduceAdd]
    have hdt : (r.drop 12).take x4.toNat = r.drop 12 := List.take_of_length_le (by rw [List.length_drop]; omega)
    have hpb : strNums (strOfNums (r.drop 12)) = r.drop 12 := by
      have hq : ∀ q : List Int, (∀ x ∈ q, 0 ≤ x ∧ x ≤ 255) → strNums (strOfNums q) = q := by
        intro q hq
        simp only [strNums, strOfNums_data, List.map_map]
        conv => rhs; rw [← List.map_id q]
        refine List.map_congr_left fun x hx => ?_
        have := hq x hx
        simp only [Function.comp_apply, id]
        have hlt : x.toNat < 256 := by omega
        rw [UInt8.toNat_ofNat', Nat.mod_eq_of_lt (by omega)]
        omega
      exact hq _ fun x hx => hbr x (List.mem_of_mem_drop hx)
    show [x0, 9, (if (x2 == 8) then (8 : Int) else 0), 0, ((strOfNums ((r.drop 12).take x4.toNat)).size : Int)] ++ (b4 (num r 0) ++ (b4 (num r 1) ++ (b4 (num r 2) ++ []))) ++ [] ++ strNums (strOfNums ((r.drop 12).take x4.toNat)) = _
    rw [hfl _ rfl, hdt, hpb, strOfNums_size, List.length_drop, show ((r.length - 12 : Nat) : Int) = x4 by omega]
    simp only [List.append_nil, List.append_assoc] at hall ⊢
    rw [← List.append_assoc (b4 (num r 1)), ← List.append_assoc (b4 (num r 0)), hall]
    simp
  · have hl3 : r.length = 8 * x4.toNat := hlen
    have hall := lostB_plOf hbr x4.toNat (by omega)
    rw [List.take_of_length_le (by omega)] at hall
    have hlost : lostB (plOf x4.toNat r) (plOf x4.toNat r).length = r := by
      unfold lostB
      rw [List.take_of_length_le (Nat.le_refl _)]
      exact hall
    show [x0, 3, (if (x2 == 8) then (8 : Int) else 0), 0, ((x4.toNat : Nat) : Int)] ++ [] ++ lostB (plOf x4.toNat r) (plOf x4.toNat r).length ++ [] = _
    rw [hfl _ rfl, hlost, show ((x4.toNat : Nat) : Int) = x4 by omega]
    simp
end Go.Proofs.YtakaadcpaeiccabGreat

namespace Go.Proofs.YtakaadcpaeiccabGreat
open Go.RowKit

theorem num_shift (x y : Int) (r : List Int) (k : Nat) : num (b4 x ++ (b4 y ++ r)) (k + 2) = num r k := by
  unfold num
  rw [show 4 * (k + 2) = 4 * k + 8 by omega]
  rfl
theorem num_first (x : Int) (r : List Int) : num (b4 x ++ r) 0 = x := by
  show n4 (x / 16777216) (x / 65536 % 256) (x / 256 % 256) (x % 256) = x
  exact n4_b4
theorem num_next (x : Int) (r : List Int) (k : Nat) : num (b4 x ++ r) (k + 1) = num r k := by
  unfold num
  rw [show 4 * (k + 1) = 4 * k + 4 by omega]
  rfl

theorem plOf_flat (L : List (Int × Int)) : plOf L.length (L.flatMap fun x => b4 x.1 ++ b4 x.2) = L := by
  induction L with
  | nil => rfl
  | cons a L ih =>
    unfold plOf at ih ⊢
    rw [List.length_cons, List.range_succ_eq_map, List.map_cons, List.map_map]
    simp only [List.flatMap_cons, List.append_assoc, Nat.mul_zero, Nat.zero_add]
    rw [num_first, num_next _ _ 0, num_first]
    conv => rhs; rw [← ih]
    refine congrArg _ (List.map_congr_left fun i _ => ?_)
    simp only [Function.comp_apply]
    rw [show 2 * Nat.succ i = 2 * i + 2 by omega, show 2 * i + 2 + 1 = 2 * i + 1 + 2 by omega, num_shift, num_shift]

theorem flag_of (u : Bool) : ((if u then (8 : Int) else 0) == 8) = u := by cases u <;> rfl

/-- What follows the first five bytes. -/
def tailB (p : Pkt) (L : List (Int × Int)) : List Int := p.numB p.nums.length ++ lostB L L.length ++ strNums p.pay

theorem encB_cons (p : Pkt) (L : List (Int × Int)) : encB p L = p.ttl :: p.kind :: flagB p :: 0 :: p.cnt :: tailB p L := by
  simp only [encB, tailB, Pkt.head, List.append_assoc, List.cons_append, List.nil_append]

theorem dec_enc (p : Pkt) (hg : p.goodB = true) (L : List (Int × Int)) (hl : L.length = p.ln) :
    (tailB p L).length = needOf p.kind p.cnt ∧ pkOf p.ttl p.kind (flagB p) p.cnt (tailB p L) = { p with la := none, lc := 0 } ∧ lsOf p.kind p.cnt (tailB p L) = L := by
  obtain ⟨hlk, _, _, _, _, _, hk⟩ := good_parts hg
  simp only [Pkt.likeB, alikeB, Bool.and_eq_true, decide_eq_true_eq] at hlk
  obtain ⟨hln, _, _, h3, h4, h5, h6, h7, h8, h9, h10, h11⟩ := hlk
  obtain ⟨ttl, kind, hops, unk, id, dest, dseq, frm, fseq, life, la, ln, lc, pay⟩ := p
  dsimp only at hk h3 h4 h5 h6 h7 h8 h9 h10 h11 hln hl ⊢
  rcases hk with rfl | rfl | rfl | ⟨rfl, hn0, hn1⟩
  · simp only [Pkt.ownP, if_true] at h3 h4 h5 h6 h7 h8 h9 h10 h11 hln
    subst h10 h11 hln
    obtain rfl := List.eq_nil_of_length_eq_zero hl
    refine ⟨rfl, ?_, rfl⟩
    have ht : tailB ⟨ttl, 1, hops, unk, id, dest, dseq, frm, fseq, 0, la, 0, lc, ⟨#[]⟩⟩ [] = b4 id ++ (b4 dest ++ (b4 dseq ++ (b4 frm ++ (b4 fseq ++ [])))) := rfl
    rw [ht]
    show (⟨ttl, 1, hops, flagB _ == 8, num _ 0, num _ 1, num _ 2, num _ 3, num _ 4, 0, none, 0, 0, ⟨#[]⟩⟩ : Pkt) = _
    rw [num_first, num_next _ _ 0, num_first, num_next _ _ 1, num_next _ _ 0, num_first, num_next _ _ 2, num_next _ _ 1, num_next _ _ 0, num_first, num_next _ _ 3, num_next _ _ 2, num_next _ _ 1, num_next _ _ 0, num_first]
    unfold flagB
    rw [flag_of]
  · simp only [Pkt.ownP, show ¬ ((2 : Int) = 1) by omega, if_false, if_true] at h3 h4 h5 h6 h7 h8 h9 h10 h11 hln
    subst h4 h5 h9 h11 hln
    obtain rfl := List.eq_nil_of_length_eq_zero hl
    refine ⟨rfl, ?_, rfl⟩
    have ht : tailB ⟨ttl, 2, hops, false, 0, dest, dseq, frm, 0, life, la, 0, lc, ⟨#[]⟩⟩ [] = b4 dest ++ (b4 dseq ++ (b4 frm ++ (b4 life ++ []))) := rfl
    rw [ht]
    show (⟨ttl, 2, hops, flagB _ == 8, 0, num _ 0, num _ 1, num _ 2, 0, num _ 3, none, 0, 0, ⟨#[]⟩⟩ : Pkt) = _
    rw [num_first, num_next _ _ 0, num_first, num_next _ _ 1, num_next _ _ 0, num_first, num_next _ _ 2, num_next _ _ 1, num_next _ _ 0, num_first]
    rfl
  · simp only [Pkt.ownP, show ¬ ((9 : Int) = 1) by omega, show ¬ ((9 : Int) = 2) by omega, show ¬ ((9 : Int) = 3) by omega, if_false, if_true] at h3 h4 h5 h6 h7 h8 h9 h10 h11 hln
    subst h3 h4 h7 h9 h10 hln
    obtain rfl := List.eq_nil_of_length_eq_zero hl
    have ht : tailB ⟨ttl, 9, 0, false, id, dest, 0, frm, 0, 0, la, 0, lc, pay⟩ [] = b4 id ++ (b4 dest ++ (b4 frm ++ strNums pay)) := rfl
    have hc : Pkt.cnt ⟨ttl, 9, 0, false, id, dest, 0, frm, 0, 0, la, 0, lc, pay⟩ = (pay.size : Int) := rfl
    rw [ht, hc]
    refine ⟨?_, ?_, rfl⟩
    · show _ = 12 + ((pay.size : Nat) : Int).toNat
      simp only [List.length_append, b4_length, strNums_length]
      omega
    · show (⟨ttl, 9, 0, flagB _ == 8, num _ 0, num _ 1, 0, num _ 2, 0, 0, none, 0, 0, strOfNums ((strNums pay).take ((pay.size : Nat) : Int).toNat)⟩ : Pkt) = _
      rw [num_first, num_next _ _ 0, num_first, num_next _ _ 1, num_next _ _ 0, num_first, List.take_of_length_le (by rw [strNums_length]; omega), strOfNums_strNums]
      rfl
  · simp only [Pkt.ownP, show ¬ ((3 : Int) = 1) by omega, show ¬ ((3 : Int) = 2) by omega, if_false, if_true] at h3 h4 h5 h6 h7 h8 h9 h10 h11
    subst h3 h4 h5 h6 h7 h8 h9 h10 h11
    have ht : tailB ⟨ttl, 3, 0, false, 0, 0, 0, 0, 0, 0, la, ln, lc, ⟨#[]⟩⟩ L = (L.flatMap fun x => b4 x.1 ++ b4 x.2) := by
      show [] ++ lostB L L.length ++ [] = _
      unfold lostB
      rw [List.take_of_length_le (Nat.le_refl _), List.append_nil, List.nil_append]
    have hc : Pkt.cnt ⟨ttl, 3, 0, false, 0, 0, 0, 0, 0, 0, la, ln, lc, ⟨#[]⟩⟩ = (ln : Int) := rfl
    rw [ht, hc]
    refine ⟨?_, ?_, ?_⟩
    · show _ = 8 * ((ln : Nat) : Int).toNat
      rw [flat8_len, hl]
      omega
    · show (⟨ttl, 3, 0, flagB _ == 8, 0, 0, 0, 0, 0, 0, none, ((ln : Nat) : Int).toNat, 0, ⟨#[]⟩⟩ : Pkt) = _
      rw [show ((ln : Nat) : Int).toNat = ln by omega]
      rfl
    · show plOf ((ln : Nat) : Int).toNat _ = L
      rw [show ((ln : Nat) : Int).toNat = L.length by omega]
      exact plOf_flat L

theorem isF_enc (p : Pkt) (hg : p.goodB = true) (L : List (Int × Int)) (hl : L.length = p.ln) : isF (encB p L) = true := by
  obtain ⟨h1, h2, _⟩ := dec_enc p hg L hl
  rw [encB_cons]
  have hf : flagB p = 0 ∨ flagB p = 8 := by unfold flagB; cases p.unk <;> simp
  rw [isF_eq hf h1, h2, goodB_la p none 0]
  exact hg
theorem isF_more (p : Pkt) (hg : p.goodB = true) (L : List (Int × Int)) (hl : L.length = p.ln) : isF (encB p L ++ [0]) = false := by
  obtain ⟨h1, _⟩ := dec_enc p hg L hl
  rw [encB_cons]
  simp only [List.cons_append]
  refine isF_len ?_
  rw [List.length_append, h1, List.length_singleton]
  omega
theorem need_pos (p : Pkt) (hg : p.goodB = true) : 1 ≤ needOf p.kind p.cnt := by
  obtain ⟨_, _, _, _, _, _, hk⟩ := good_parts hg
  unfold needOf Pkt.cnt
  rcases hk with hk | hk | hk | ⟨hk, h, _⟩
  · simp [hk]
  · simp [hk]
  · simp [hk]; omega
  · simp [hk]; omega
theorem isF_less (p : Pkt) (hg : p.goodB = true) (L : List (Int × Int)) (hl : L.length = p.ln) : isF ((encB p L).take ((encB p L).length - 1)) = false := by
  obtain ⟨h1, _⟩ := dec_enc p hg L hl
  have hpos := need_pos p hg
  rw [encB_cons]
  simp only [List.length_cons]
  rw [show (tailB p L).length + 1 + 1 + 1 + 1 + 1 - 1 = (tailB p L).length - 1 + 1 + 1 + 1 + 1 + 1 by omega]
  simp only [List.take_succ_cons]
  refine isF_len ?_
  rw [List.length_take]
  omega
end Go.Proofs.YtakaadcpaeiccabGreat

namespace Go.Proofs.YtakaadcpaeiccabGreat
open Go.RowKit

theorem Decode_any (v : Value) (xs : List Int) (W : World) (hv : RestV W v xs) :
    Calls Tryz.prog 22 #[v] W fun e w' => DecodeP xs W e w' := Decode_of packet_any v xs W hv
end Go.Proofs.YtakaadcpaeiccabGreat

namespace Go.Proofs.YtakaadcpaeiccabGreat
open Go.RowKit

theorem nums_b {p : Pkt} (hp : p.Wf) : ∀ x ∈ p.nums, 0 ≤ x.2 ∧ x.2 < 4294967296 := by
  intro x hx
  obtain ⟨_, _, _, _, _, _, h7, h8, h9, h10, h11, h12, h13, h14, h15, h16, h17, h18, _, _⟩ := hp
  unfold Pkt.nums at hx
  split at hx
  · simp only [List.mem_cons, List.not_mem_nil, or_false] at hx
    rcases hx with rfl | rfl | rfl | rfl | rfl <;> exact ⟨by assumption, by assumption⟩
  split at hx
  · simp only [List.mem_cons, List.not_mem_nil, or_false] at hx
    rcases hx with rfl | rfl | rfl | rfl <;> exact ⟨by assumption, by assumption⟩
  split at hx
  · simp only [List.mem_cons, List.not_mem_nil, or_false] at hx
    rcases hx with rfl | rfl | rfl <;> exact ⟨by assumption, by assumption⟩
  · simp at hx

theorem encB_b {W : World} {p : Pkt} {L : List (Int × Int)} (hp : p.Wf) (hg : p.goodB = true) (hL : HoldsA W p.la L) : ∀ x ∈ encB p L, 0 ≤ x ∧ x ≤ 255 := by
  have hgp := good_parts hg
  have hgf := good_fits hg
  have hlb : ∀ x ∈ L, (0 ≤ x.1 ∧ x.1 < 4294967296) ∧ 0 ≤ x.2 ∧ x.2 < 4294967296 := by
    intro x hx
    obtain ⟨j, hj, rfl⟩ := List.mem_iff_getElem.1 hx
    obtain ⟨_, _, d, s, _, _, h3, h4, h5, h6, h7, _⟩ := hL j hj
    rw [List.getElem?_eq_getElem hj] at h3
    have e := Option.some.inj h3
    rw [e]
    exact ⟨⟨h4, h5⟩, h6, h7⟩
  intro x hx
  simp only [encB, Pkt.head, Pkt.numB, lostB, List.mem_append, List.mem_cons, List.not_mem_nil, or_false, List.mem_flatMap] at hx
  rcases hx with (((rfl | rfl | rfl | rfl | rfl) | ⟨y, hy, hx⟩) | ⟨y, hy, hx⟩) | hx
  · exact ⟨by omega, by omega⟩
  · exact ⟨by omega, by omega⟩
  · unfold flagB
    split <;> exact ⟨by omega, by omega⟩
  · exact ⟨by omega, by omega⟩
  · exact ⟨by omega, by omega⟩
  · have := nums_b hp y (List.mem_of_mem_take hy)
    exact b4_b this.1 this.2 x hx
  · have := hlb y (List.mem_of_mem_take hy)
    rcases hx with hx | hx
    · exact b4_b this.1.1 this.1.2 x hx
    · exact b4_b this.2.1 this.2.2 x hx
  · exact strNums_b _ x hx

theorem Reads.fwd {p : Pkt} {L : List (Int × Int)} {v : Value} {W : World} {N : Nat} (hg : p.goodB = true) (hl : L.length = p.ln) (h : Reads (encB p L) v W N) :
    ∃ ao c, v = ({ p with la := ao, lc := c } : Pkt).val ∧ HoldsA W ao L ∧ ∀ b, ao = some b → N ≤ b.block := by
  obtain ⟨x0, x1, x2, x3, x4, r, ao, c, hx, hv, _, hA, hf⟩ := h
  rw [encB_cons] at hx
  simp only [List.cons.injEq] at hx
  obtain ⟨rfl, rfl, rfl, rfl, rfl, rfl⟩ := hx
  obtain ⟨_, h2, h3⟩ := dec_enc p hg L hl
  rw [h2] at hv
  rw [h3] at hA
  exact ⟨ao, c, hv, hA, hf⟩

theorem pkOf_wf {x0 x1 x2 x4 : Int} {r : List Int} (hb : ∀ x ∈ r, 0 ≤ x ∧ x ≤ 255) (h0 : 0 ≤ x0 ∧ x0 ≤ 255) (h1 : 0 ≤ x1 ∧ x1 ≤ 255) (h4 : 0 ≤ x4 ∧ x4 ≤ 255) : (pkOf x0 x1 x2 x4 r).Wf := by
  have hn := fun i => num_b hb i
  have q0 := hn 0
  have q1 := hn 1
  have q2 := hn 2
  have q3 := hn 3
  have q4 := hn 4
  have hz : (⟨#[]⟩ : ByteArray).size = 0 := rfl
  unfold pkOf
  split
  · constructor <;> (dsimp only; omega)
  split
  · constructor <;> (dsimp only; omega)
  split
  · constructor <;> (dsimp only; omega)
  split
  · have : (strOfNums ((r.drop 12).take x4.toNat)).size ≤ 255 := by
      rw [strOfNums_size, List.length_take]; omega
    constructor <;> (dsimp only; omega)
  · constructor <;> (dsimp only; omega)

theorem Reads.back {xs : List Int} {v : Value} {W : World} {N : Nat} (hb : ∀ x ∈ xs, 0 ≤ x ∧ x ≤ 255) (hF : isF xs = true) (h : Reads xs v W N) :
    ∃ (q : Pkt) (L : List (Int × Int)), v = q.val ∧ q.Wf ∧ q.goodB = true ∧ HoldsL W q L ∧ encB q L = xs ∧ (∀ b, q.la = some b → N ≤ b.block) := by
  obtain ⟨x0, x1, x2, x3, x4, r, ao, c, rfl, hv, hl, hA, hf⟩ := h
  have hw : (pkOf x0 x1 x2 x4 r).Wf := pkOf_wf (fun x hx => hb x (by simp [hx])) (hb x0 (by simp)) (hb x1 (by simp)) (hb x4 (by simp))
  have hgood : (pkOf x0 x1 x2 x4 r).goodB = true := by
    simp only [isF, Bool.and_eq_true] at hF
    exact hF.2
  refine ⟨{ pkOf x0 x1 x2 x4 r with la := ao, lc := c }, lsOf x1 x4 r, hv, ⟨hw.ttl0, hw.ttl1, hw.kind0, hw.kind1, hw.hops0, hw.hops1, hw.id0, hw.id1, hw.dest0, hw.dest1, hw.dseq0, hw.dseq1, hw.frm0, hw.frm1, hw.fseq0, hw.fseq1, hw.life0, hw.life1, hw.ln1, hw.pay1⟩, (goodB_la _ _ _).trans hgood, ⟨hl, hA⟩, ?_, hf⟩
  rw [cnt_flag, enc_pkOf hb hF]
end Go.Proofs.YtakaadcpaeiccabGreat
