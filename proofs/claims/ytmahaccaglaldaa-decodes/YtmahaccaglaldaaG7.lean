import Derived.Test.YtmahaccaglaldaaG4
import Derived.Deep.QuietTactic
import Derived.BigQuiet
import Derived.Lib.Strings
import Derived.Deep.RegionLaw
namespace Go.Proofs.Ytmahaccaglaldaa
open Go.RowKit

/-- The number that the first four bytes of a string spell. -/
def n4s (s : ByteArray) : Int := num (strNums s) 0

theorem strNums_at (s : ByteArray) (i : Nat) (h : i < s.size) : (strNums s).getD i 0 = (s[i].toNat : Int) := by
  have hl : i < s.data.toList.length := by simpa using h
  have e : (strNums s)[i]? = some (s[i].toNat : Int) := by
    simp only [strNums, List.getElem?_map, List.getElem?_eq_getElem hl, Option.map_some]
    rfl
  simp [List.getD, e]

theorem or4 (a b c d : Int) (ha : 0 ≤ a ∧ a ≤ 255) (hb : 0 ≤ b ∧ b ≤ 255) (hc : 0 ≤ c ∧ c ≤ 255) (hd : 0 ≤ d ∧ d ≤ 255) :
    bits .or .u32 (bits .or .u32 (bits .or .u32 (a % 4294967296 * 16777216 % 4294967296) (b % 4294967296 * 65536 % 4294967296)) (c % 4294967296 * 256 % 4294967296)) (d % 4294967296) = n4 a b c d := by
  rw [show a % 4294967296 * 16777216 % 4294967296 = a * 16777216 by omega, show b % 4294967296 * 65536 % 4294967296 = b * 65536 by omega, show c % 4294967296 * 256 % 4294967296 = c * 256 by omega, show d % 4294967296 = d by omega]
  rw [bits_join .u32 32 (by decide) wraps_u32 24 (a * 16777216) (b * 65536) (by omega) (by omega) (by omega) (by omega) (by omega) (by omega)]
  rw [bits_join .u32 32 (by decide) wraps_u32 16 (a * 16777216 + b * 65536) (c * 256) (by omega) (by omega) (by omega) (by omega) (by omega) (by omega)]
  rw [bits_join .u32 32 (by decide) wraps_u32 8 (a * 16777216 + b * 65536 + c * 256) d (by omega) (by omega) (by omega) (by omega) (by omega) (by omega)]
  rfl

theorem byte_b (b : UInt8) : (0 : Int) ≤ (b.toNat : Int) ∧ (b.toNat : Int) ≤ 255 := by
  have := b.toNat_lt
  omega

set_option maxRecDepth 100000 in
set_option maxHeartbeats 1000000 in
theorem refnum_any (s : ByteArray) (h : 4 ≤ s.size) (w : World) :
    Calls Try.prog 24 #[.string s] w fun e w' => e = .returned (.int .u32 (n4s s)) ∧ Below w.heap.size w w' := by
  have h0 : (0 : Int) < (s.size : Int) := by omega
  have h1 : (1 : Int) < (s.size : Int) := by omega
  have h2 : (2 : Int) < (s.size : Int) := by omega
  have h3 : (3 : Int) < (s.size : Int) := by omega
  have g0 : 0 < s.size := by omega
  have g1 : 1 < s.size := by omega
  have g2 : 2 < s.size := by omega
  have g3 : 3 < s.size := by omega
  go_enter Try.func24, Try.ntmps24
  go_wp2
  go_quiet (fail)
  go_wp2
  go_ret
  refine ⟨?_, below_drewN (Below.refl _ _) _⟩
  refine ret_int ?_
  rw [or4 _ _ _ _ (byte_b _) (byte_b _) (byte_b _) (byte_b _)]
  unfold n4s num
  rw [strNums_at s _ g0, strNums_at s _ g1, strNums_at s _ g2, strNums_at s _ g3]
end Go.Proofs.Ytmahaccaglaldaa

namespace Go.Proofs.Ytmahaccaglaldaa
open Go.RowKit

theorem strNums_extract (s : ByteArray) (a b : Nat) : strNums (s.extract a b) = ((strNums s).drop a).take (b - a) := by
  simp only [strNums, Go.Lib.extract_data, List.map_take, List.map_drop]

theorem strNums_tail {s : ByteArray} {x0 x1 x2 x3 x4 : Int} {r : List Int} {n : Nat} (hx : strNums s = x0 :: x1 :: x2 :: x3 :: x4 :: r) (hn : s.size ≤ n) : strNums (s.extract 5 n) = r := by
  have hl : (strNums s).length = s.size := strNums_length s
  rw [strNums_extract, hx]
  rw [hx] at hl
  simp only [List.length_cons] at hl
  simp only [List.drop_succ_cons, List.drop_zero]
  exact List.take_of_length_le (by omega)

theorem n4s_extract {t : ByteArray} (k : Nat) {a n : Nat} (ha : a = 4 * k) (hn : t.size ≤ n) : n4s (t.extract a n) = num (strNums t) k := by
  subst ha
  unfold n4s
  rw [strNums_extract, List.take_of_length_le (by rw [List.length_drop, strNums_length]; omega)]
  unfold num
  simp only [List.getD, List.getElem?_drop, Nat.mul_zero, Nat.add_zero, Nat.zero_add]
theorem n4s_all (t : ByteArray) : n4s t = num (strNums t) 0 := rfl

/-- The reading of the document's own answer: the place of the answer, the packet under way. -/
structure RI (p : Pkt) (w W : World) : Prop where
  z : PB Pkt.zero w.heap.size W
  b : PB p (w.heap.size + 1) W
  bl : Below w.heap.size w W
theorem RI.start (p : Pkt) (w : World) : RI p w ((w.alloc Pkt.zero.box).alloc p.box).drew := by
  have h1 : Below w.heap.size w (w.alloc Pkt.zero.box) := (Below.refl _ _).alloc (Nat.le_refl _) _
  refine ⟨(PB.new Pkt.zero w).alloc _, ?_, (h1.alloc (by simp) _).drew⟩
  have h := PB.new p (w.alloc Pkt.zero.box)
  rw [World.size_alloc] at h
  exact h
theorem RI.step {p : Pkt} {w W W' : World} (h : RI p w W) (hb : Below W.heap.size W W') : RI p w W' :=
  ⟨h.z.below hb, h.b.below hb, h.bl.trans (hb.mono h.bl.size)⟩
theorem RI.set {p : Pkt} {w W : World} (h : RI p w W) (q : Pkt) (i : Nat) (v : Value) (hq : Obj.cells ((#[.int .i64 p.ttl, .int .i64 p.kind, .int .i64 p.hops, .bool p.unk, .int .u32 p.id, .int .u32 p.dest, .int .u32 p.dseq, .int .u32 p.frm, .int .u32 p.fseq, .int .u32 p.life, .slice p.la p.ln p.lc, .string p.pay] : Array Value).setIfInBounds i v) 26 (0, 0) = q.box) :
    RI q w (W.setCell ⟨w.heap.size + 1, i, none⟩ v) :=
  ⟨h.z.other (a := ⟨w.heap.size + 1, i, none⟩) (by simp) v, h.b.set q i v hq, h.bl.setCell (p := ⟨w.heap.size + 1, i, none⟩) (by simp) v⟩
theorem RI.out {p : Pkt} {w W : World} (h : RI p w W) (q : Pkt) : PB q w.heap.size (store12 W w.heap.size q) ∧ Below w.heap.size w (store12 W w.heap.size q) :=
  ⟨h.z.storeAll q, below_storeB h.bl (Nat.le_refl _) q⟩

theorem strNums_strOfNums (q : List Int) (hq : ∀ x ∈ q, 0 ≤ x ∧ x ≤ 255) : strNums (strOfNums q) = q := by
  simp only [strNums, strOfNums_data, List.map_map]
  conv => rhs; rw [← List.map_id q]
  refine List.map_congr_left fun x hx => ?_
  have := hq x hx
  simp only [Function.comp_apply, id]
  have hlt : x.toNat < 256 := by omega
  rw [UInt8.toNat_ofNat', Nat.mod_eq_of_lt (by omega)]
  omega

/-- What the document's own writer says of what its reader has read. -/
theorem refE_back (p : Pkt) (hp : p.Wf) (L : List (Int × Int)) (w : World) (hL : HoldsL w p L) (s : ByteArray) (hF : isF (strNums s) = true → p.goodB = true ∧ encB p L = strNums s) :
    Calls Try.prog 7 #[p.val] w fun e w' => Below w.heap.size w w' ∧ ∃ t c, e = .returned (.tuple #[.string t, .int .i64 c]) ∧
      ((isF (strNums s) = true ∧ t = s ∧ c = 0) ∨ (isF (strNums s) = false ∧ (c = 1 ∨ (c = 0 ∧ (t.toList == s.toList) = false)))) := by
  cases hg : p.goodB
  · refine (refE_bad p hp hg L w hL).mono ?_
    rintro e w' ⟨rfl, hb⟩
    refine ⟨hb, _, 1, rfl, .inr ⟨?_, .inl rfl⟩⟩
    cases hi : isF (strNums s)
    · rfl
    · rw [(hF hi).1] at hg
      cases hg
  · refine (refE_good p hp hg L w hL).mono ?_
    rintro e w' ⟨rfl, hb⟩
    refine ⟨hb, _, 0, rfl, ?_⟩
    by_cases he : encB p L = strNums s
    · refine .inl ⟨?_, ?_, rfl⟩
      · rw [← he]
        exact isF_enc p hg L hL.1
      · rw [he, strOfNums_strNums]
    · refine .inr ⟨?_, .inr ⟨rfl, ?_⟩⟩
      · cases hi : isF (strNums s)
        · rfl
        · exact absurd (hF hi).2 he
      · rw [beq_eq_false_iff_ne]
        intro h
        rw [ByteArray.toList_eq, ByteArray.toList_eq] at h
        have h' : strOfNums (encB p L) = s := ByteArray.ext (Array.toList_inj.mp h)
        refine he ?_
        rw [← h', strNums_strOfNums]
        exact encB_b hp hg hL.2
end Go.Proofs.Ytmahaccaglaldaa

namespace Go.Proofs.Ytmahaccaglaldaa
open Go.RowKit

/-- 'append' onto a row of the call's own, as one step of a region that draws its order. -/
theorem step_append_own {P : Program} {ops : Array Oper} {o : Oper} {a : Act} {w : World} {K : Act → World → Prop} {Q : Exit → Act → World → Prop} {E : Prop}
    (hg : o.guard = none) (s x : Operand) (t : TypeId) (hop : o.op = Op.call { callee := Callee.builtin Builtin.append, args := #[s, x], argTypes := #[t, t] })
    (base : Nat) (e : TypeId) (i : TypeInfo) (z : Value) (size bytes : Nat) (h1 : P.underlying t = some (.slice e)) (h2 : P.info? e = some i) (h3 : i.zero = some z) (h4 : i.size = size) (h5 : i.bytes = bytes) (h6 : z.cells.size = size) (h7 : 0 < size)
    (v : Value) (n : Nat) (xs : List Value) (hs : a.eval s = v) (hown : w.ownsRow base e size v n xs)
    (ad : Addr) (m c : Nat) (news : List Value) (hx : a.eval x = .slice (some ad) m c) (hn : news.length = m * size) (hc : ∀ j u, news[j]? = some u → w.cell? (ad.add j) = some u) (h1c : ∀ u ∈ news, u.oneCell' = true)
    (b1 : n + m ≤ maxLen) (b2 : (n + m) * bytes ≤ 140737488355328) (hbase : base ≤ w.heap.size)
    (hK : ∀ v' w', w'.ownsRow base e size v' (n + m) (xs ++ news) → w.grownBy w' v.ownBlock → K (a.put o.dst v') w') :
    if Region.wanted o (yielded ops a.tmps) = true then Oper.wp P o a w K Q else E := by
  have hw : Region.wanted o (yielded ops a.tmps) = true := by simp [Region.wanted, hg]
  rw [if_pos hw]
  obtain ⟨v', w', hrun, r1, r2, _⟩ := run_append_own (P := P) w base t o.type e i z size bytes h1 h2 h3 h4 h5 h6 h7 v n xs hown ad m c news hn hc h1c b1 b2 hbase
  unfold Oper.wp
  simp [execOp, hop, resolve, invoke, builtin, hs, hx, hrun, Result.andThen]
  exact hK v' w' r1 r2

/-- The list that grows: its packet and its row. -/
structure LI (x0 : Int) (la : Option Addr) (k lc : Nat) (L : List (Int × Int)) (w W : World) : Prop where
  ri : RI ⟨x0, 3, 0, false, 0, 0, 0, 0, 0, 0, la, k, lc, ⟨#[]⟩⟩ w W
  row : W.ownsRow (w.heap.size + 2) 49 2 (.slice la k lc) k (LC L)
theorem LI.drew {x0 : Int} {la : Option Addr} {k lc : Nat} {L : List (Int × Int)} {w W : World} (h : LI x0 la k lc L w W) : LI x0 la k lc L w W.drew :=
  ⟨⟨h.ri.z, h.ri.b, h.ri.bl.drew⟩, h.row⟩
theorem LI.step {x0 : Int} {la : Option Addr} {k lc : Nat} {L : List (Int × Int)} {w W W' : World} (h : LI x0 la k lc L w W) (hb : Below W.heap.size W W') : LI x0 la k lc L w W' :=
  ⟨h.ri.step hb, h.row.kept (row := none) ⟨hb.os, hb.tape, hb.output, hb.size, fun k hk _ => hb.block k hk⟩ (by cases (Value.slice la _ _).ownBlock <;> simp)⟩
theorem LI.alloc {x0 : Int} {la : Option Addr} {k lc : Nat} {L : List (Int × Int)} {w W : World} (h : LI x0 la k lc L w W) (o : Obj) : LI x0 la k lc L w (W.alloc o) :=
  h.step ((Below.refl _ _).alloc (Nat.le_refl _) o)
theorem LI.cell {x0 : Int} {la : Option Addr} {k lc : Nat} {L : List (Int × Int)} {w W : World} (h : LI x0 la k lc L w W) :
    W.cell? ⟨w.heap.size + 1, 10, none⟩ = some (.slice la k lc) ∧ W.frozen? ⟨w.heap.size + 1, 10, none⟩ = false := by
  obtain ⟨_, _, _, _, _, _, _, _, _, _, b10, _⟩ := h.ri.b.cell
  exact ⟨b10, h.ri.b.free 10⟩
theorem LI.base {x0 : Int} {la : Option Addr} {k lc : Nat} {L : List (Int × Int)} {w W : World} (h : LI x0 la k lc L w W) : w.heap.size + 2 ≤ W.heap.size := by
  have := h.ri.b.lt
  omega
/-- The list in a world in which it has grown, and the packet not yet. -/
theorem LI.grown {x0 : Int} {la : Option Addr} {k lc : Nat} {L : List (Int × Int)} {w W W' : World} (h : LI x0 la k lc L w W) (hg : W.grownBy W' (Value.slice la k lc).ownBlock) : RI ⟨x0, 3, 0, false, 0, 0, 0, 0, 0, 0, la, k, lc, ⟨#[]⟩⟩ w W' := by
  have hlt := h.row.lt
  have hne : ∀ j, j < w.heap.size + 2 → some j ≠ (Value.slice la k lc).ownBlock := fun j hj he => by
    have := (hlt j he.symm).1
    omega
  have hb1 := h.ri.b.lt
  refine ⟨(hg.block _ h.ri.z.lt (hne _ (by omega))).trans h.ri.z, (hg.block _ hb1 (hne _ (by omega))).trans h.ri.b, ?_⟩
  exact h.ri.bl.grown hg (by omega) (fun j hj => by have := (hlt j hj).1; omega)
theorem LI.next {x0 : Int} {la : Option Addr} {k lc : Nat} {L : List (Int × Int)} {w W : World} {d s : Int} {g c : Nat} (h : RI ⟨x0, 3, 0, false, 0, 0, 0, 0, 0, 0, la, k, lc, ⟨#[]⟩⟩ w W)
    (hr : W.ownsRow (w.heap.size + 2) 49 2 (.slice (some ⟨g, 0, none⟩) (k + 1) c) (k + 1) (LC L ++ [.int .u32 d, .int .u32 s])) :
    LI x0 (some ⟨g, 0, none⟩) (k + 1) c (L ++ [(d, s)]) w (W.setCell ⟨w.heap.size + 1, 10, none⟩ (.slice (some ⟨g, 0, none⟩) (k + 1) c)) := by
  have hlt := hr.lt g rfl
  refine ⟨h.set ⟨x0, 3, 0, false, 0, 0, 0, 0, 0, 0, some ⟨g, 0, none⟩, k + 1, c, ⟨#[]⟩⟩ 10 _ rfl, ?_⟩
  have e : LC (L ++ [(d, s)]) = LC L ++ [.int .u32 d, .int .u32 s] := by simp [LC]
  rw [e]
  exact hr.kept (row := some (w.heap.size + 1)) ⟨rfl, rfl, rfl, by simp, fun j _ hj => Below.heap_setCell W _ _ j (fun e => hj (by rw [e]))⟩ (by simp [Value.ownBlock]; omega)
theorem cells2_new (W : World) (d s : Int) : ∀ (j : Nat) (u : Value), [Value.int .u32 d, .int .u32 s][j]? = some u → (W.alloc (.cells #[.int .u32 d, .int .u32 s] 49)).cell? ((⟨W.heap.size, 0, none⟩ : Addr).add j) = some u := by
  intro j u hj
  have hh := heap_alloc_new W (.cells #[.int .u32 d, .int .u32 s] 49)
  match j, hj with
  | 0, hj => exact (cell_of_row _ _ 0 _ _ _ hh).trans hj
  | 1, hj => exact (cell_of_row _ _ 1 _ _ _ hh).trans hj
  | j + 2, hj => simp at hj
theorem one2 (d s : Int) : ∀ u ∈ [Value.int .u32 d, .int .u32 s], u.oneCell' = true := by
  intro u hu
  simp only [List.mem_cons, List.not_mem_nil, or_false] at hu
  rcases hu with rfl | rfl <;> rfl
end Go.Proofs.Ytmahaccaglaldaa
