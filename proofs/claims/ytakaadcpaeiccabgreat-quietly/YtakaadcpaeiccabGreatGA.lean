import Derived.Test.YtakaadcpaeiccabGreatGB
import Derived.Test.YtakaadcpaeiccabGreatC1
import Derived.Test.YtakaadcpaeiccabGreatD1
import Derived.Test.YtakaadcpaeiccabGreatB1
import Derived.Deep.RegionHeld3
import Derived.Test.YtakaadcpaeiccabGreatD2
import Derived.Lib.Bytes
import Derived.Test.YtakaadcpaeiccabGreatG0
namespace Go.Proofs.YtakaadcpaeiccabGreat
open Go.RowKit

theorem g_odd {c : Nat} (hc : c < 4294967296) (h : (bits .and .u32 (c : Int) 1 == 1) = true) : bits .xor .u32 ((c : Int) / 2) 3988292384 = ((Crc.g c : Nat) : Int) := by
  rw [show (1 : Int) = ((1 : Nat) : Int) from rfl, u32_and_nat c 1 hc (by omega), Nat.and_one_is_mod] at h
  have h1 : c % 2 = 1 := by
    have := beq_iff_eq.1 h
    omega
  rw [show (c : Int) / 2 = ((c / 2 : Nat) : Int) by omega, show (3988292384 : Int) = ((3988292384 : Nat) : Int) from rfl, u32_xor_nat (c / 2) 3988292384 (by omega) (by omega)]
  unfold Crc.g
  rw [if_pos h1]
theorem g_even {c : Nat} (hc : c < 4294967296) (h : (bits .and .u32 (c : Int) 1 == 1) = false) : (c : Int) / 2 = ((Crc.g c : Nat) : Int) := by
  rw [show (1 : Int) = ((1 : Nat) : Int) from rfl, u32_and_nat c 1 hc (by omega), Nat.and_one_is_mod] at h
  have h1 : ¬ c % 2 = 1 := by
    have := beq_eq_false_iff_ne.1 h
    omega
  unfold Crc.g
  rw [if_neg h1]
  omega

set_option maxHeartbeats 1000000 in
theorem sumNumber_any (n : Int) (h0 : 0 ≤ n) (h1 : n ≤ 255) (w : World) :
    Calls Tryz.prog 91 #[.int .u8 n] w fun e w' => e = .returned (.int .u32 (Crc.tab n.toNat : Nat)) ∧ w' = w := by
  obtain ⟨m, rfl⟩ := Int.eq_ofNat_of_zero_le h0
  go_enter Tryz.func91, Tryz.ntmps91
  go_wp2
  go_loop [3, 7] (fun s i => ∃ k : Nat, k ≤ 8 ∧ i = .int .i64 k ∧ s = .int .u32 (Crc.gs k m : Nat)) (fun _ i => 8 - (intOf i).toNat)
  case atStart => exact ⟨0, by omega, rfl, rfl⟩
  case round =>
    obtain ⟨k, hk, rfl, rfl⟩ := hrel
    have hc : Crc.gs k m < 4294967296 := Crc.gs_lt (by omega) k
    by_cases hlt : k < 8
    · go_wp2
      · rename_i h
        have he := g_odd hc h
        go_round
        case rel => exact ⟨k + 1, by omega, by go_num, by rw [he]; rfl⟩
        case measure => simp [intOf]; omega
      · rename_i h
        have he := g_even hc h
        go_round
        case rel => exact ⟨k + 1, by omega, by go_num, by rw [he]; rfl⟩
        case measure => simp [intOf]; omega
    · go_wp2
      go_ret
      obtain rfl : k = 8 := by omega
      exact ⟨rfl, rfl⟩

/-- Bytes as plain numbers. -/
def nats (xs : List Int) : List Nat := xs.map Int.toNat
theorem nats_b {xs : List Int} (h : ∀ x ∈ xs, 0 ≤ x ∧ x ≤ 255) : ∀ x ∈ nats xs, x < 256 := by
  intro x hx
  simp only [nats, List.mem_map] at hx
  obtain ⟨y, hy, rfl⟩ := hx
  have := h y hy
  omega
/-- The SUM of bytes. -/
def crcN (xs : List Int) : Nat := Crc.run (nats xs) 4294967295
def crc (xs : List Int) : Int := 4294967295 - (crcN xs : Int)
theorem crcN_lt {xs : List Int} (h : ∀ x ∈ xs, 0 ≤ x ∧ x ≤ 255) : crcN xs < 4294967296 := Crc.run_lt _ (by omega) (nats_b h)
theorem crc_b {xs : List Int} (h : ∀ x ∈ xs, 0 ≤ x ∧ x ≤ 255) : 0 ≤ crc xs ∧ crc xs < 4294967296 := by
  have := crcN_lt h
  unfold crc
  omega
theorem crcN_snoc (xs : List Int) (x : Int) : crcN (xs ++ [x]) = Crc.step (crcN xs) x.toNat := by
  unfold crcN nats
  rw [List.map_append, Crc.run_append]
  rfl
theorem step_int {s : Nat} {x : Int} (hs : s < 4294967296) (h0 : 0 ≤ x) (h1 : x ≤ 255) :
    bits .xor .u32 ((Crc.tab (bits .xor .u8 ((s : Int) % 256) x).toNat : Nat) : Int) ((s : Int) / 256) = ((Crc.step s x.toNat : Nat) : Int) := by
  obtain ⟨m, rfl⟩ := Int.eq_ofNat_of_zero_le h0
  rw [show (s : Int) % 256 = ((s % 256 : Nat) : Int) by omega, u8_xor_nat (s % 256) m (by omega) (by omega), Int.toNat_natCast,
    show (s : Int) / 256 = ((s / 256 : Nat) : Int) by omega, u32_xor_nat _ _ (Crc.tab_lt (by have := Crc.xor_byte (Nat.mod_lt s (by decide : 0 < 256)) (show m < 256 by omega); omega)) (by omega)]
  rfl
theorem take_snoc (xs : List Int) (k : Nat) {x : Int} (h : xs[k]? = some x) : xs.take (k + 1) = xs.take k ++ [x] := by
  rw [List.take_add_one, h]
  rfl
theorem take_b {xs : List Int} (h : ∀ x ∈ xs, 0 ≤ x ∧ x ≤ 255) (k : Nat) : ∀ x ∈ xs.take k, 0 ≤ x ∧ x ≤ 255 := fun x hx => h x (List.mem_of_mem_take hx)

theorem crc_not {c : Nat} (hc : c < 4294967296) : bits .xor .u32 IntKind.u32.max (c : Int) = 4294967295 - (c : Int) := by
  rw [show IntKind.u32.max = ((4294967295 : Nat) : Int) from rfl, u32_xor_nat 4294967295 c (by omega) hc]
  have h := congrArg BitVec.toNat (BitVec.allOnes_xor (w := 32) (x := BitVec.ofNat 32 c))
  rw [BitVec.toNat_xor, BitVec.toNat_not, BitVec.toNat_ofNat, BitVec.toNat_allOnes, Nat.mod_eq_of_lt hc] at h
  simp only [Nat.reducePow, Nat.add_one_sub_one] at h
  omega

set_option maxHeartbeats 1000000 in
theorem sum_any (v : Value) (xs : List Int) (w : World) (hv : RestV w v xs) :
    Calls Tryz.prog 58 #[v] w fun e w' => e = .returned (.int .u32 (crc xs)) ∧ w' = w := by
  obtain ⟨a, c, rfl⟩ : ∃ a c, v = .slice a xs.length c := by
    rcases hv.2 with ⟨rfl, rfl⟩ | ⟨b, o, c, rfl, _⟩
    · exact ⟨_, _, rfl⟩
    · exact ⟨_, _, rfl⟩
  have hlen : xs.length ≤ 9223372036854775807 := by
    rcases hv.2 with ⟨_, rfl⟩ | ⟨b, o, c, _, h1, h2, _⟩
    · simp
    · omega
  have hb := hv.1
  go_enter Tryz.func58, Tryz.ntmps58
  go_wp2
  go_loop [3, 8] (fun s i => ∃ k : Nat, k ≤ xs.length ∧ i = .int .i64 k ∧ s = .int .u32 (crcN (xs.take k) : Nat)) (fun _ i => xs.length - (intOf i).toNat)
  case atStart => exact ⟨0, by omega, rfl, rfl⟩
  case round =>
    obtain ⟨k, hk, rfl, rfl⟩ := hrel
    have hc := crcN_lt (take_b hb k)
    by_cases hlt : k < xs.length
    · obtain ⟨x, hx⟩ : ∃ x, xs[k]? = some x := ⟨_, List.getElem?_eq_getElem hlt⟩
      obtain ⟨hx0, hx1, b, o, c', he, hcell⟩ := rest_cell hv hx
      simp only [Value.slice.injEq] at he
      obtain ⟨rfl, he1, rfl⟩ := he
      clear he1
      have hst : Hid _ := step_int hc hx0 hx1
      have hsn : Hid _ := crcN_snoc (xs.take k) x
      have hts : Hid _ := take_snoc xs k hx
      have hq : 0 ≤ bits .xor .u8 ((crcN (xs.take k) : Int) % 256) x ∧ bits .xor .u8 ((crcN (xs.take k) : Int) % 256) x ≤ 255 := by
        obtain ⟨m, rfl⟩ := Int.eq_ofNat_of_zero_le hx0
        rw [show (crcN (xs.take k) : Int) % 256 = ((crcN (xs.take k) % 256 : Nat) : Int) by omega, u8_xor_nat _ m (by omega) (by omega)]
        have := Crc.xor_byte (Nat.mod_lt (crcN (xs.take k)) (by decide : 0 < 256)) (show m < 256 by omega)
        omega
      clear hx hv hb
      go_wp2_with (go_at_call 91; refine (sumNumber_any _ hq.1 hq.2 _).mono ?_; rintro e w1 ⟨rfl, rfl⟩)
      go_round
      case rel => exact ⟨k + 1, by omega, by go_num, by rw [hst.out, hts.out, hsn.out]⟩
      case measure => simp [intOf]; omega
    · go_wp2
      go_ret
      obtain rfl : k = xs.length := by omega
      simp only [List.take_length]
      exact ⟨ret_int (crc_not (crcN_lt hb)), trivial⟩
end Go.Proofs.YtakaadcpaeiccabGreat

namespace Go.Proofs.YtakaadcpaeiccabGreat
open Go.RowKit

/-- A record as the walks have it. -/
@[reducible] def recV (o : Bool) (a s : Int) : Value := .agg #[.bool o, .int .u32 a, .int .u32 s]
@[reducible] def recBox (o : Bool) (a s : Int) : Obj := .cells #[.bool o, .int .u32 a, .int .u32 s] 82
/-- The nine bytes of a record, and all thirteen. -/
def recH (o : Bool) (a s : Int) : List Int := (if o then 1 else 2) :: (b4 (if o then 0 else a) ++ b4 s)
def recB (o : Bool) (a s : Int) : List Int := recH o a s ++ b4 (crc (recH o a s))
theorem recH_length (o : Bool) (a s : Int) : (recH o a s).length = 9 := rfl
theorem recB_length (o : Bool) (a s : Int) : (recB o a s).length = 13 := rfl
theorem recH_b {o : Bool} {a s : Int} (a0 : 0 ≤ a) (a1 : a < 4294967296) (s0 : 0 ≤ s) (s1 : s < 4294967296) : ∀ x ∈ recH o a s, 0 ≤ x ∧ x ≤ 255 := by
  intro x hx
  simp only [recH, List.mem_cons, List.mem_append] at hx
  rcases hx with rfl | hx | hx
  · cases o <;> simp
  · cases o
    · exact b4_b a0 a1 x hx
    · exact b4_b (by simp) (by simp) x hx
  · exact b4_b s0 s1 x hx
theorem recB_b {o : Bool} {a s : Int} (a0 : 0 ≤ a) (a1 : a < 4294967296) (s0 : 0 ≤ s) (s1 : s < 4294967296) : ∀ x ∈ recB o a s, 0 ≤ x ∧ x ≤ 255 := by
  have hh := recH_b (o := o) a0 a1 s0 s1
  intro x hx
  rcases List.mem_append.1 hx with hx | hx
  · exact hh x hx
  · have := crc_b hh
    exact b4_b this.1 this.2 x hx

/-- What a record's box holds where a statement reads it. -/
@[reducible] def RcS (a s : Int) (w W : World) : Prop :=
  W.cell? ⟨w.heap.size, 1, none⟩ = some (.int .u32 a) ∧ W.cell? ⟨w.heap.size, 2, none⟩ = some (.int .u32 s) ∧ w.heap.size < W.heap.size ∧ Below w.heap.size w W
theorem RcS.start (o : Bool) (a s : Int) (w : World) : RcS a s w (w.alloc (recBox o a s)) :=
  ⟨World.cell?_alloc_new w _ _ _, World.cell?_alloc_new w _ _ _, by simp, (Below.refl _ _).alloc (Nat.le_refl _) _⟩
theorem RcS.drew {a s : Int} {w W : World} (h : RcS a s w W) : RcS a s w W.drew := ⟨h.1, h.2.1, h.2.2.1, h.2.2.2.drew⟩
theorem RcS.alloc {a s : Int} {w W : World} (h : RcS a s w W) (o : Obj) : RcS a s w (W.alloc o) := by
  have hb : Below W.heap.size W (W.alloc o) := (Below.refl _ _).alloc (Nat.le_refl _) _
  exact ⟨(hb.cell (p := ⟨w.heap.size, 1, none⟩) h.2.2.1).trans h.1, (hb.cell (p := ⟨w.heap.size, 2, none⟩) h.2.2.1).trans h.2.1, by simp; have := h.2.2.1; omega, h.2.2.2.alloc (Nat.le_of_lt h.2.2.1) _⟩
theorem RcS.grown {a s : Int} {w W W1 : World} {v : Value} {n : Nat} {xs : List Value} (h : RcS a s w W) (ho : W.ownsRow (w.heap.size + 1) 5 1 v n xs) (hg : W.grownBy W1 v.ownBlock) : RcS a s w W1 := by
  have hne : some w.heap.size ≠ v.ownBlock := fun e => by have := (ho.lt _ e.symm).1; omega
  have hb : Below (w.heap.size + 1) W W1 := (Below.refl _ _).grown hg h.2.2.1 fun k hk => (ho.lt k hk).1
  exact ⟨hg.cell h.1 hne, hg.cell h.2.1 hne, Nat.lt_of_lt_of_le h.2.2.1 hg.size, h.2.2.2.trans (hb.mono (Nat.le_succ _))⟩
theorem own_one (base : Nat) (w : World) (x0 : Int) (hb : base ≤ w.heap.size) :
    (w.alloc (.cells #[.int .u8 x0] 5)).ownsRow base 5 1 (.slice (some ⟨w.heap.size, 0, none⟩) 1 1) [x0].length (U [x0]) :=
  ⟨rfl, .inr ⟨w.heap.size, 1, _, rfl, hb, heap_alloc_new w _, Nat.le_refl _, by decide, rfl, rfl⟩⟩

set_option maxRecDepth 100000 in
set_option maxHeartbeats 1000000 in
theorem WriteRecord_any (o : Bool) (a s : Int) (a0 : 0 ≤ a) (a1 : a < 4294967296) (s0 : 0 ≤ s) (s1 : s < 4294967296) (w : World) :
    Calls Tryz.prog 23 #[recV o a s] w fun e w' => ∃ v, e = .returned v ∧ Below w.heap.size w w' ∧ v ≠ .slice none 0 0 ∧ w'.ownsRow (w.heap.size + 1) 5 1 v 13 (U (recB o a s)) := by
  cases o
  · have hS := RcS.start false a s w
    dsimp only [recBox] at hS
    have hl1 : w.heap.size < (w.alloc (recBox false a s)).heap.size := by simp
    dsimp only [recBox] at hl1
    go_enter Tryz.func23, Tryz.ntmps23
    go_wp2_with fail
    generalize World.alloc _ _ = W0 at hS hl1 ⊢
    have own0 := (own_one (w.heap.size + 1) W0 2 hl1).drew
    go_region_held3 (RcS a s w) (first | exact RcS.drew (by assumption) | assumption | exact RcS.alloc (by assumption) _ | exact RcS.grown (by assumption) own0 hgrow5 | exact RcS.grown (by assumption) hown5 hgrow6) (first
      | (go_at_call_of 57 (Value.int IntKind.u32 a); refine (appendNumber_any (w.heap.size + 1) _ a [2] _ a0 a1 own0 (by simp) (by simp; omega) (by simp)).mono ?_; rintro e w5 ⟨v5, rfl, hown5, hgrow5, hnn5⟩)
      | (go_at_call_of 57 (Value.int IntKind.u32 s); refine (appendNumber_any (w.heap.size + 1) _ s ([2] ++ b4 a) _ s0 s1 hown5 hnn5 (Nat.le_trans (Nat.le_of_lt (by simp; omega)) hgrow5.size) (by simp [b4_length])).mono ?_; rintro e w6 ⟨v6, rfl, hown6, hgrow6, hnn6⟩))
    rename_i hS6
    have hb : ∀ x ∈ recH false a s, 0 ≤ x ∧ x ≤ 255 := recH_b a0 a1 s0 s1
    have hown7 : w6.ownsRow (w.heap.size + 1) 5 1 v6 (recH false a s).length (U (recH false a s)) := hown6
    have hr := rest_row hown7 hb
    have hc := crc_b hb
    clear hown6 hgrow6 hown5 hgrow5 own0 hS hl1 hnn5
    go_wp2_with fail
    refine (sum_any _ (recH false a s) _ hr).mono ?_
    rintro e w7 ⟨rfl, rfl⟩
    go_wp2_with fail
    refine (appendNumber_any (w.heap.size + 1) _ _ (recH false a s) _ hc.1 hc.2 hown7 hnn6 hS6.2.2.1 (by rw [recH_length]; omega)).mono ?_
    rintro e w8 ⟨v8, rfl, hown8, hgrow8, hnn8⟩
    go_wp2_with fail
    go_ret
    exact ⟨v8, rfl, hS6.2.2.2.grown hgrow8 (Nat.le_of_lt hS6.2.2.1) (fun k hk => Nat.le_of_succ_le (hown7.lt k hk).1), hnn8, hown8⟩
  · have hS := RcS.start true 0 s w
    dsimp only [recBox] at hS
    have hl1 : w.heap.size < (w.alloc (recBox true 0 s)).heap.size := by simp
    dsimp only [recBox] at hl1
    go_enter Tryz.func23, Tryz.ntmps23
    go_wp2_with fail
    generalize World.alloc _ _ = W0 at hS hl1 ⊢
    have own0 := (own_one (w.heap.size + 1) W0 1 hl1).drew
    go_region_held3 (RcS 0 s w) (first | exact RcS.drew (by assumption) | assumption | exact RcS.alloc (by assumption) _ | exact RcS.grown (by assumption) own0 hgrow5 | exact RcS.grown (by assumption) hown5 hgrow6) (first
      | (go_at_call_of 57 (Value.int IntKind.u32 0); refine (appendNumber_any (w.heap.size + 1) _ 0 [1] _ (by decide) (by decide) own0 (by simp) (by simp; omega) (by simp)).mono ?_; rintro e w5 ⟨v5, rfl, hown5, hgrow5, hnn5⟩)
      | (go_at_call_of 57 (Value.int IntKind.u32 s); refine (appendNumber_any (w.heap.size + 1) _ s ([1] ++ b4 0) _ s0 s1 hown5 hnn5 (Nat.le_trans (Nat.le_of_lt (by simp; omega)) hgrow5.size) (by simp [b4_length])).mono ?_; rintro e w6 ⟨v6, rfl, hown6, hgrow6, hnn6⟩))
    rename_i hS6
    have hb : ∀ x ∈ recH true 0 s, 0 ≤ x ∧ x ≤ 255 := recH_b (by decide) (by decide) s0 s1
    have hown7 : w6.ownsRow (w.heap.size + 1) 5 1 v6 (recH true 0 s).length (U (recH true 0 s)) := hown6
    have hr := rest_row hown7 hb
    have hc := crc_b hb
    clear hown6 hgrow6 hown5 hgrow5 own0 hS hl1 hnn5
    go_wp2_with fail
    refine (sum_any _ (recH true 0 s) _ hr).mono ?_
    rintro e w7 ⟨rfl, rfl⟩
    go_wp2_with fail
    refine (appendNumber_any (w.heap.size + 1) _ _ (recH true 0 s) _ hc.1 hc.2 hown7 hnn6 hS6.2.2.1 (by rw [recH_length]; omega)).mono ?_
    rintro e w8 ⟨v8, rfl, hown8, hgrow8, hnn8⟩
    go_wp2_with fail
    go_ret
    exact ⟨v8, rfl, hS6.2.2.2.grown hgrow8 (Nat.le_of_lt hS6.2.2.1) (fun k hk => Nat.le_of_succ_le (hown7.lt k hk).1), hnn8, hown8⟩
end Go.Proofs.YtakaadcpaeiccabGreat

namespace Go.Proofs.YtakaadcpaeiccabGreat
open Go.RowKit

theorem strNums_of {xs : List Int} (h : ∀ x ∈ xs, 0 ≤ x ∧ x ≤ 255) : strNums (strOfNums xs) = xs := by
  unfold strNums
  rw [strOfNums_data, List.map_map]
  conv => rhs; rw [← List.map_id xs]
  refine List.map_congr_left fun x hx => ?_
  have := h x hx
  simp only [Function.comp_apply, id, UInt8.toNat_ofNat']
  omega
theorem strEq {xs ys : List Int} (hx : ∀ x ∈ xs, 0 ≤ x ∧ x ≤ 255) (hy : ∀ x ∈ ys, 0 ≤ x ∧ x ≤ 255) : ((strOfNums xs).toList == (strOfNums ys).toList) = decide (xs = ys) := by
  rw [Bool.eq_iff_iff]
  simp only [beq_iff_eq, decide_eq_true_eq]
  constructor
  · intro h
    rw [← strNums_of hx, ← strNums_of hy]
    unfold strNums
    have : (strOfNums xs).data.toList = (strOfNums ys).data.toList := by
      rw [Lib.strOfNums_toList, Lib.strOfNums_toList] at h
      exact h
    rw [this]
  · rintro rfl
    rfl

set_option maxHeartbeats 1000000 in
theorem Equal_any (v u : Value) (xs ys : List Int) (w : World) (hv : RestV w v xs) (hu : RestV w u ys) :
    Calls Tryz.prog 101 #[v, u] w fun e w' => e = .returned (.bool (decide (xs = ys))) ∧ w' = w := by
  have h1 := conv_rest hv
  have h2 := conv_rest hu
  have hx := hv.1
  have hy := hu.1
  clear hv hu
  go_enter Tryz.func101, Tryz.ntmps101
  go_wp2
  go_ret
  exact ⟨ret_bool (strEq hx hy), rfl⟩
end Go.Proofs.YtakaadcpaeiccabGreat

namespace Go.Proofs.YtakaadcpaeiccabGreat
open Go.RowKit

/-- A block that is a record's box. -/
def RBk (B : Nat) (o : Bool) (a s : Int) (W : World) : Prop := W.heap[B]? = some (recBox o a s)
theorem RBk.cell {B : Nat} {o : Bool} {a s : Int} {W : World} (h : RBk B o a s W) :
    W.cell? ⟨B, 0, none⟩ = some (.bool o) ∧ W.cell? ⟨B, 1, none⟩ = some (.int .u32 a) ∧ W.cell? ⟨B, 2, none⟩ = some (.int .u32 s) :=
  ⟨cell_of_row W B 0 _ _ _ h, cell_of_row W B 1 _ _ _ h, cell_of_row W B 2 _ _ _ h⟩
theorem RBk.free {B : Nat} {o : Bool} {a s : Int} {W : World} (h : RBk B o a s W) (i : Nat) : W.frozen? ⟨B, i, none⟩ = false := by
  unfold RBk at h
  simp [World.frozen?, h]
theorem RBk.lt {B : Nat} {o : Bool} {a s : Int} {W : World} (h : RBk B o a s W) : B < W.heap.size := (Array.getElem?_eq_some_iff.1 h).1
theorem RBk.below {B N : Nat} {o : Bool} {a s : Int} {W W' : World} (h : RBk B o a s W) (hb : Below N W W') (hN : B < N) : RBk B o a s W' := (hb.block _ hN).trans h
theorem RBk.later {B : Nat} {o : Bool} {a s : Int} {W W' : World} (h : RBk B o a s W) (hb : Below W.heap.size W W') : RBk B o a s W' := h.below hb h.lt
theorem RBk.new (o : Bool) (a s : Int) (W : World) : RBk W.heap.size o a s (W.alloc (recBox o a s)) := heap_alloc_new W _

/-- A record stored whole. -/
@[reducible] def store3 (W : World) (B : Nat) (o : Bool) (a s : Int) : World := ((W.setCell ⟨B, 0, none⟩ (.bool o)).setCell ⟨B, 1, none⟩ (.int .u32 a)).setCell ⟨B, 2, none⟩ (.int .u32 s)
theorem RBk.store {B : Nat} {o : Bool} {a s : Int} {W : World} (h : RBk B o a s W) (o' : Bool) (a' s' : Int) : RBk B o' a' s' (store3 W B o' a' s') := by
  unfold RBk at h ⊢
  simp [World.setCell, Array.getElem?_modify, h]
theorem below_store3 {N B : Nat} {w W : World} (h : Below N w W) (hN : N ≤ B) (o : Bool) (a s : Int) : Below N w (store3 W B o a s) :=
  ((h.setCell (p := ⟨B, 0, none⟩) hN _).setCell (p := ⟨B, 1, none⟩) hN _).setCell (p := ⟨B, 2, none⟩) hN _

theorem free_of {W : World} {B : Nat} {c : Array Value} {e : TypeId} (h : W.heap[B]? = some (.cells c e (0, 0))) (i : Nat) : W.frozen? ⟨B, i, none⟩ = false := by
  simp [World.frozen?, h]

/-- What thirteen bytes say, and whether they are a record. -/
def rO (xs : List Int) : Bool := xs.getD 0 0 == 1
def rA (xs : List Int) : Int := n4 (xs.getD 1 0) (xs.getD 2 0) (xs.getD 3 0) (xs.getD 4 0)
def rS (xs : List Int) : Int := n4 (xs.getD 5 0) (xs.getD 6 0) (xs.getD 7 0) (xs.getD 8 0)
def okR (xs : List Int) : Bool := decide (13 ≤ xs.length) && decide (xs.take 13 = recB (rO xs) (rA xs) (rS xs))

theorem n4_b' {a b c d : Int} (ha : 0 ≤ a ∧ a ≤ 255) (hb : 0 ≤ b ∧ b ≤ 255) (hc : 0 ≤ c ∧ c ≤ 255) (hd : 0 ≤ d ∧ d ≤ 255) : 0 ≤ n4 a b c d ∧ n4 a b c d < 4294967296 := by
  unfold n4
  omega

theorem list13 {xs : List Int} (h : 13 ≤ xs.length) : ∃ x0 x1 x2 x3 x4 x5 x6 x7 x8 x9 x10 x11 x12 ys, xs = x0 :: x1 :: x2 :: x3 :: x4 :: x5 :: x6 :: x7 :: x8 :: x9 :: x10 :: x11 :: x12 :: ys := by
  match xs, h with
  | x0 :: x1 :: x2 :: x3 :: x4 :: x5 :: x6 :: x7 :: x8 :: x9 :: x10 :: x11 :: x12 :: ys, _ => exact ⟨x0, x1, x2, x3, x4, x5, x6, x7, x8, x9, x10, x11, x12, ys, rfl⟩

set_option maxRecDepth 100000 in
set_option maxHeartbeats 1000000 in
theorem readRecord_short (v : Value) (xs : List Int) (w : World) (hv : RestV w v xs) (hs : xs.length < 13) :
    Calls Tryz.prog 68 #[v] w fun e w' => e = .returned (.tuple #[recV false 0 0, .bool false]) ∧ Below w.heap.size w w' := by
  obtain ⟨a, c, rfl⟩ : ∃ a c, v = .slice a xs.length c := by
    rcases hv.2 with ⟨rfl, rfl⟩ | ⟨b, o, c, rfl, _⟩
    · exact ⟨_, _, rfl⟩
    · exact ⟨_, _, rfl⟩
  have hd : decide ((xs.length : Int) < 13) = true := decide_eq_true (by omega)
  clear hv
  go_enter Tryz.func68, Tryz.ntmps68
  go_wp2
  go_returns
  exact ⟨rfl, (Below.refl _ _).alloc (Nat.le_refl _) _⟩

set_option maxRecDepth 100000 in
set_option maxHeartbeats 1000000 in
theorem readRecord_long (v : Value) (xs : List Int) (w : World) (hv : RestV w v xs) (hs : 13 ≤ xs.length) :
    Calls Tryz.prog 68 #[v] w fun e w' => e = .returned (.tuple #[if okR xs then recV (rO xs) (rA xs) (rS xs) else recV false 0 0, .bool (okR xs)]) ∧ Below w.heap.size w w' := by
  obtain ⟨b, o, c, rfl, h1, h2, h3⟩ : ∃ b o c, v = .slice (some ⟨b, o, none⟩) xs.length c ∧ xs.length ≤ c ∧ c ≤ 9223372036854775807 ∧ ∀ (j : Nat) (x : Int), xs[j]? = some x → w.cell? ⟨b, o + j, none⟩ = some (.int .u8 x) := by
    rcases hv.2 with ⟨rfl, rfl⟩ | h
    · simp at hs
    · exact h
  have hp := (RestV.part hv.1 h1 h2 h3 13 hs).1
  have hd : decide ((xs.length : Int) < 13) = false := decide_eq_false (by omega)
  have hx := hv.1
  obtain ⟨x0, x1, x2, x3, x4, x5, x6, x7, x8, x9, x10, x11, x12, ys, hxs⟩ := list13 hs
  have hO : rO xs = (x0 == 1) := by rw [hxs]; rfl
  have hA : rA xs = n4 x1 x2 x3 x4 := by rw [hxs]; rfl
  have hS : rS xs = n4 x5 x6 x7 x8 := by rw [hxs]; rfl
  have ht : xs.take 13 = [x0, x1, x2, x3, x4, x5, x6, x7, x8, x9, x10, x11, x12] := by rw [hxs]; rfl
  have hk : okR xs = decide ([x0, x1, x2, x3, x4, x5, x6, x7, x8, x9, x10, x11, x12] = recB (x0 == 1) (n4 x1 x2 x3 x4) (n4 x5 x6 x7 x8)) := by
    unfold okR
    rw [hO, hA, hS, ht, decide_eq_true hs, Bool.true_and]
  have hbA : 0 ≤ n4 x1 x2 x3 x4 ∧ n4 x1 x2 x3 x4 < 4294967296 := by
    rw [hxs] at hx
    exact n4_b' (hx x1 (by simp)) (hx x2 (by simp)) (hx x3 (by simp)) (hx x4 (by simp))
  have hbS : 0 ≤ n4 x5 x6 x7 x8 ∧ n4 x5 x6 x7 x8 < 4294967296 := by
    rw [hxs] at hx
    exact n4_b' (hx x5 (by simp)) (hx x6 (by simp)) (hx x7 (by simp)) (hx x8 (by simp))
  rw [hO, hA, hS]
  rw [ht] at hp
  have hk' := (show Hid _ from hk)
  generalize okR xs = ok at hk' ⊢
  clear hv h3 hx hxs hO hA hS ht hk
  have hZ : RBk w.heap.size false 0 0 ((w.alloc (recBox false 0 0)).alloc (.cells #[.slice (some ⟨b, o, none⟩) 13 c] 141)) := (RBk.new false 0 0 w).later ((Below.refl _ _).alloc (Nat.le_refl _) _)
  have hB : Below w.heap.size w ((w.alloc (recBox false 0 0)).alloc (.cells #[.slice (some ⟨b, o, none⟩) 13 c] 141)) := ((Below.refl _ _).alloc (Nat.le_refl _) _).alloc (by simp) _
  have hR : Rd (w.heap.size + 1) [x0, x1, x2, x3, x4, x5, x6, x7, x8, x9, x10, x11, x12] ((w.alloc (recBox false 0 0)).alloc (.cells #[.slice (some ⟨b, o, none⟩) 13 c] 141)) := by
    have hh := heap_alloc_new (w.alloc (recBox false 0 0)) (.cells #[.slice (some ⟨b, o, none⟩) 13 c] 141)
    rw [World.size_alloc] at hh
    exact ⟨_, cell_of_row _ _ 0 _ _ _ hh, free_of hh 0, hp.kept hB⟩
  dsimp only [recBox] at hZ hB hR
  go_enter Tryz.func68, Tryz.ntmps68
  go_wp2_with fail
  generalize World.alloc _ _ = W1 at hZ hB hR ⊢
  refine (one_any _ _ _ hR).mono ?_
  rintro e W2 (⟨x, zs, he, hx0, hx1, rfl, hR2, hg2, hb2⟩ | ⟨he, _⟩)
  case inr => cases he
  cases he
  have hZ2 := hZ.below hb2 (Nat.lt_succ_self _)
  have hB2 := hB.trans (hb2.mono (Nat.le_succ _))
  clear hZ hB hR hg2 hb2
  go_wp2_with fail
  refine (number_any _ _ _ hR2).mono ?_
  rintro e W3 (⟨a', b', c', d', zs, he, rfl, hR3, hg3, hb3⟩ | ⟨he, _⟩)
  case inr => simp at he
  cases he
  have hZ3 := hZ2.below hb3 (Nat.lt_succ_self _)
  have hB3 := hB2.trans (hb3.mono (Nat.le_succ _))
  clear hZ2 hB2 hR2 hg3 hb3
  go_wp2_with fail
  refine (number_any _ _ _ hR3).mono ?_
  rintro e W4 (⟨a', b', c', d', zs, he, rfl, hR4, hg4, hb4⟩ | ⟨he, _⟩)
  case inr => simp at he
  cases he
  have hZ4 := hZ3.below hb4 (Nat.lt_succ_self _)
  have hB4 := hB3.trans (hb4.mono (Nat.le_succ _))
  clear hZ3 hB3 hR3 hg4 hb4 hR4
  have hN := RBk.new (x0 == 1) (n4 x1 x2 x3 x4) (n4 x5 x6 x7 x8) W4
  have hbn : Below W4.heap.size W4 (W4.alloc (recBox (x0 == 1) (n4 x1 x2 x3 x4) (n4 x5 x6 x7 x8))) := (Below.refl _ _).alloc (Nat.le_refl _) _
  have hZ5 := hZ4.later hbn
  have hB5 := hB4.trans (hbn.mono hB4.size)
  dsimp only [recBox] at hN hZ5 hB5
  clear hbn hZ4 hB4
  go_wp2_with fail
  clear hN
  have hN := RBk.new (x0 == 1) (n4 x1 x2 x3 x4) (n4 x5 x6 x7 x8) W4
  dsimp only [recBox] at hN
  generalize W4.heap.size = R5 at hN ⊢
  generalize World.alloc _ _ = W5 at hN hZ5 hB5 ⊢
  refine (WriteRecord_any (x0 == 1) (n4 x1 x2 x3 x4) (n4 x5 x6 x7 x8) hbA.1 hbA.2 hbS.1 hbS.2 _).mono ?_
  rintro e W6 ⟨v6, rfl, hb6, hnn6, hown6⟩
  have hN6 := hN.later hb6
  have hZ6 := hZ5.later hb6
  have hB6 := hB5.trans (hb6.mono hB5.size)
  have hp6 := hp.kept hB6
  have hr6 : RestV W6 v6 (recB (x0 == 1) (n4 x1 x2 x3 x4) (n4 x5 x6 x7 x8)) := rest_row (base := W5.heap.size + 1) hown6 (recB_b hbA.1 hbA.2 hbS.1 hbS.2)
  clear hN hZ5 hB5 hb6 hnn6 hown6 hp
  go_wp2_with fail
  refine (Equal_any _ _ _ _ _ hp6 hr6).mono ?_
  rintro e W7 ⟨rfl, rfl⟩
  rw [← hk'.out]
  clear hk' hr6 hp6 hbA hbS
  obtain ⟨n0, n1, n2⟩ := hN6.cell
  obtain ⟨z0, z1, z2⟩ := hZ6.cell
  have zf := hZ6.free
  have hw := hZ6.lt
  cases ok
  · have hF := hZ6.store false 0 0
    have hG := below_store3 hB6 (Nat.le_refl _) false 0 0
    go_wp2
    dsimp only [store3] at hF hG
    generalize World.setCell _ _ _ = W8 at hF hG ⊢
    obtain ⟨q0, q1, q2⟩ := hF.cell
    exact bodyPost_ret (v := .tuple #[recV false 0 0, .bool false]) (by simp [results, Tryz.results68, go_sem, q0, q1, q2]) rfl ⟨rfl, hG⟩
  · have hF := hZ6.store (x0 == 1) (n4 x1 x2 x3 x4) (n4 x5 x6 x7 x8)
    have hG := below_store3 hB6 (Nat.le_refl _) (x0 == 1) (n4 x1 x2 x3 x4) (n4 x5 x6 x7 x8)
    go_wp2
    dsimp only [store3] at hF hG
    generalize World.setCell _ _ _ = W8 at hF hG ⊢
    obtain ⟨q0, q1, q2⟩ := hF.cell
    exact bodyPost_ret (v := .tuple #[recV (x0 == 1) (n4 x1 x2 x3 x4) (n4 x5 x6 x7 x8), .bool true]) (by simp [results, Tryz.results68, go_sem, q0, q1, q2]) rfl ⟨rfl, hG⟩

theorem readRecord_any (v : Value) (xs : List Int) (w : World) (hv : RestV w v xs) :
    Calls Tryz.prog 68 #[v] w fun e w' => e = .returned (.tuple #[if okR xs then recV (rO xs) (rA xs) (rS xs) else recV false 0 0, .bool (okR xs)]) ∧ Below w.heap.size w w' := by
  by_cases hs : 13 ≤ xs.length
  · exact readRecord_long v xs w hv hs
  · have hk : okR xs = false := by simp [okR, hs]
    rw [hk]
    exact readRecord_short v xs w hv (by omega)
end Go.Proofs.YtakaadcpaeiccabGreat

namespace Go.Proofs.YtakaadcpaeiccabGreat
open Go.RowKit

theorem info_rec : (Tryz.prog.info? 82).map (fun i => (i.zero, i.size, i.bytes)) = some (some (.agg #[.bool false, .int .u32 0, .int .u32 0]), 3, 12) := by kernel_rfl

/-- The rest of a slice of bytes. -/
theorem slice_from {w : World} {v : Value} {xs : List Int} (hv : RestV w v xs) (k : Nat) (hk : k ≤ xs.length) (i : Int) (hi : i = k) :
    ∃ u, (∀ W : World, (Instr.slice 58 v (some (.int .i64 i)) none none).run Tryz.prog W = .ok u W) ∧ ∀ W : World, RestV W v xs → RestV W u (xs.drop k) := by
  have ht : Tryz.prog.underlying 58 = some (.slice (Tryz.prog.elem 58)) := by simp [Program.elem, Tryz.underlying58]
  have hz : ∀ w, (Go.sizeOf (Tryz.prog.elem 58)).run Tryz.prog w = .ok 1 w := by
    intro w
    simp [go_sem, Program.elem, Tryz.underlying58]
  subst hi
  rcases hv.2 with ⟨rfl, rfl⟩ | ⟨b, o, c, rfl, h1, h2, _⟩
  · obtain rfl : k = 0 := by simpa using hk
    refine ⟨.slice none 0 0, fun W => ?_, fun W h => h⟩
    rw [run_slice_l W 58 _ _ _ ht .i64 _ (by omega) (by omega), hz]
    rfl
  · refine ⟨sliced (some ⟨b, o, none⟩) k xs.length c 1, fun W => ?_, fun W h => ?_⟩
    · rw [run_slice_l W 58 _ _ _ ht .i64 _ (by omega) (by omega), hz]
      rfl
    · rcases h.2 with ⟨he, _⟩ | ⟨b', o', c', he, _, _, h3⟩
      · cases he
      · simp only [Value.slice.injEq, Option.some.injEq, Addr.mk.injEq, and_true] at he
        obtain ⟨⟨rfl, rfl⟩, _, rfl⟩ := he
        have hp := (RestV.part h.1 h1 h2 h3 k hk).2
        unfold sliced
        split
        · rename_i hc
          have hx : xs.drop k = [] := List.drop_eq_nil_of_le (by omega)
          rw [hx]
          refine ⟨by simp, .inr ⟨b, o, c - k, ?_, by simp, by omega, by simp⟩⟩
          rw [show xs.length - k = ([] : List Int).length by simp; omega]
        · have e : (some (⟨b, o, none⟩ : Addr)).map (·.add (k * 1)) = some ⟨b, o + k, none⟩ := by simp [Addr.add]
          rw [e]
          exact hp

/-- Records as cells. -/
def RC (L : List (Bool × Int × Int)) : List Value := L.flatMap fun x => [.bool x.1, .int .u32 x.2.1, .int .u32 x.2.2]
theorem RC_length (L : List (Bool × Int × Int)) : (RC L).length = L.length * 3 := by
  induction L with
  | nil => rfl
  | cons a L ih =>
    simp only [RC, List.flatMap_cons, List.length_append, List.length_cons, List.length_nil] at ih ⊢
    omega
theorem RC_append (a b : List (Bool × Int × Int)) : RC (a ++ b) = RC a ++ RC b := by simp [RC]
theorem RC_one (x : Bool × Int × Int) : RC [x] = [.bool x.1, .int .u32 x.2.1, .int .u32 x.2.2] := rfl

/-- The records that stand one behind the other. -/
def rdJ : Nat → List Int → List (Bool × Int × Int)
  | 0, _ => []
  | f + 1, xs => if okR xs then (rO xs, rA xs, rS xs) :: rdJ f (xs.drop 13) else []
def jl (xs : List Int) : List (Bool × Int × Int) := rdJ xs.length xs
theorem okR_len {xs : List Int} (h : okR xs = true) : 13 ≤ xs.length := by
  simp only [okR, Bool.and_eq_true, decide_eq_true_eq] at h
  exact h.1
theorem rdJ_no {xs : List Int} (h : okR xs = false) (f : Nat) : rdJ f xs = [] := by
  cases f <;> simp [rdJ, h]
theorem rdJ_yes {xs : List Int} (h : okR xs = true) {f : Nat} (hf : xs.length ≤ f) : rdJ f xs = (rO xs, rA xs, rS xs) :: rdJ (f - 1) (xs.drop 13) := by
  have := okR_len h
  obtain ⟨g, rfl⟩ : ∃ g, f = g + 1 := ⟨f - 1, by omega⟩
  simp [rdJ, h]

theorem cells_rec (W : World) (o : Bool) (a s : Int) : ∀ (j : Nat) (u : Value), (RC [(o, a, s)])[j]? = some u → (W.alloc (recBox o a s)).cell? ((⟨W.heap.size, 0, none⟩ : Addr).add j) = some u := by
  intro j u hj
  have hh := heap_alloc_new W (recBox o a s)
  rw [RC_one] at hj
  match j, hj with
  | 0, hj => exact (cell_of_row _ _ 0 _ _ _ hh).trans hj
  | 1, hj => exact (cell_of_row _ _ 1 _ _ _ hh).trans hj
  | 2, hj => exact (cell_of_row _ _ 2 _ _ _ hh).trans hj
  | j + 3, hj => simp at hj
theorem one_rec (o : Bool) (a s : Int) : ∀ u ∈ RC [(o, a, s)], u.oneCell' = true := by
  intro u hu
  simp only [RC_one, List.mem_cons, List.not_mem_nil, or_false] at hu
  rcases hu with rfl | rfl | rfl <;> rfl

set_option maxRecDepth 100000 in
set_option maxHeartbeats 2000000 in
theorem ReadJournal_any (v : Value) (xs : List Int) (hxs : xs.length ≤ 1000000) (w : World) (hv : RestV w v xs) :
    Calls Tryz.prog 41 #[v] w fun e w' => ∃ u, e = .returned (.tuple #[u, .int .i64 (13 * (jl xs).length : Nat)]) ∧ Below w.heap.size w w' ∧ w'.ownsRow w.heap.size 82 3 u (jl xs).length (RC (jl xs)) := by
  obtain ⟨i0, hi, hz0, hz1, hz2⟩ := info_parts info_rec
  go_enter Tryz.func41, Tryz.ntmps41
  go_wp2_with fail
  go_loopw [4, 5] (fun l t wr => ∃ (k : Nat) (L : List (Bool × Int × Int)), L.length = k ∧ 13 * k ≤ xs.length ∧ t = .int .i64 (13 * (k : Int)) ∧ wr.ownsRow w.heap.size 82 3 l k (RC L) ∧ Below w.heap.size w wr ∧ jl xs = L ++ rdJ (xs.length - k) (xs.drop (13 * k))) (fun _ t _ => xs.length - (intOf t).toNat)
  case atStart => exact ⟨0, [], rfl, by omega, rfl, ⟨rfl, .inl ⟨rfl, rfl⟩⟩, Below.refl _ _, rfl⟩
  case round =>
    obtain ⟨k, L, hLk, h13, rfl, ho, hB, hj⟩ := hrel
    obtain ⟨u, hsl, hu⟩ := slice_from hv (13 * k) h13 (13 * (k : Int)) (by omega)
    have hur := hu _ (hv.kept hB)
    have hj' := (show Hid _ from hj)
    have hLk' := (show Hid _ from hLk)
    clear hj hu hLk
    go_wp2_with fail
    refine (readRecord_any _ _ _ hur).mono ?_
    rintro e W1 ⟨rfl, hb1⟩
    have ho1 := ho.kept (w' := W1) (row := none) ⟨hb1.os, hb1.tape, hb1.output, hb1.size, fun k hk _ => hb1.block k hk⟩ (by cases u4.ownBlock <;> simp)
    have hB1 := hB.trans (hb1.mono hB.size)
    clear ho hB hb1 hsl hur
    have hdl : (xs.drop (13 * k)).length = xs.length - 13 * k := List.length_drop
    cases hok : okR (xs.drop (13 * k))
    · have hj0 : jl xs = L := by rw [hj'.out, rdJ_no hok, List.append_nil]
      have hj1 : Hid ((jl xs).length = k) := by
        show (jl xs).length = k
        rw [hj0]; exact hLk'.out
      have hj2 : Hid (RC (jl xs) = RC L) := by
        show RC (jl xs) = RC L
        rw [hj0]
      clear hj0 hok hdl
      have ho2 := ho1.alloc (recBox false 0 0)
      have hB2 : Below w.heap.size w (W1.alloc (recBox false 0 0)) := hB1.alloc hB1.size _
      dsimp only [recBox] at ho2 hB2
      go_wp2
      go_ret2
      refine ⟨u4, ?_, hB2, ?_⟩
      · rw [hj1.out]
        simp
      · rw [hj1.out, hj2.out]
        exact ho2
    · have hge := okR_len hok
      have hst : Hid (rdJ (xs.length - k) (xs.drop (13 * k)) = (rO (xs.drop (13 * k)), rA (xs.drop (13 * k)), rS (xs.drop (13 * k))) :: rdJ (xs.length - (k + 1)) (xs.drop (13 * (k + 1)))) := by
        show _ = _
        rw [rdJ_yes hok (by omega), List.drop_drop, show 13 * k + 13 = 13 * (k + 1) by omega, show xs.length - k - 1 = xs.length - (k + 1) by omega]
      generalize rO (xs.drop (13 * k)) = o at hst ⊢
      generalize rA (xs.drop (13 * k)) = a at hst ⊢
      generalize rS (xs.drop (13 * k)) = s at hst ⊢
      clear hok
      have ho2 := (ho1.alloc (recBox o a s)).alloc (recBox o a s)
      have hc2 := cells_rec (W1.alloc (recBox o a s)) o a s
      have hB2 : Below w.heap.size w ((W1.alloc (recBox o a s)).alloc (recBox o a s)) := (hB1.alloc hB1.size _).alloc (by have := hB1.size; simp; omega) _
      have hs1 := hB1.size
      have hlt := ho2.lt
      rw [World.size_alloc] at hc2
      dsimp only [recBox] at ho2 hc2 hB2 hlt
      go_wp2_with (at_builtin; refine wpList_append_own _ rfl _ _ 79 rfl w.heap.size 82 i0 (.agg #[.bool false, .int .u32 0, .int .u32 0]) 3 12 Tryz.underlying79 hi hz0 hz1 hz2 rfl (by decide) u4 k (RC L) rfl ho2 ⟨W1.heap.size + 1, 0, none⟩ 1 1 (RC [(o, a, s)]) rfl rfl hc2 (one_rec o a s) ?c1 ?c2 ?c3 ?_)
      case c1 => unfold maxLen; omega
      case c2 => omega
      case c3 => simp; omega
      intro v' W3 ho3 hg3 _
      have hB3 := hB2.grown hg3 hB2.size (fun k hk => (hlt k hk).1)
      clear ho2 hc2 hB2 hg3 hlt
      go_wp2
      go_roundw
      case rel =>
        refine ⟨k + 1, L ++ [(o, a, s)], by rw [List.length_append, hLk'.out]; rfl, by omega, by go_num, ?_, hB3, ?_⟩
        · rw [RC_append]
          exact ho3
        · rw [hj'.out, hst.out, List.append_assoc]
          rfl
      case measure => simp [intOf]; omega
end Go.Proofs.YtakaadcpaeiccabGreat

namespace Go.Proofs.YtakaadcpaeiccabGreat

def recB3 (x : Bool × Int × Int) : List Int := recB x.1 x.2.1 x.2.2
/-- A record as it is written: one's own has the address 0. -/
def norm (x : Bool × Int × Int) : Bool × Int × Int := (x.1, if x.1 then 0 else x.2.1, x.2.2)
def flatR (L : List (Bool × Int × Int)) : List Int := L.flatMap recB3
/-- The numbers of records are in their bounds. -/
def RBd (L : List (Bool × Int × Int)) : Prop := ∀ x ∈ L, (0 ≤ x.2.1 ∧ x.2.1 < 4294967296) ∧ 0 ≤ x.2.2 ∧ x.2.2 < 4294967296
theorem flatR_length (L : List (Bool × Int × Int)) : (flatR L).length = 13 * L.length := by
  induction L with
  | nil => rfl
  | cons a L ih =>
    simp only [flatR, List.flatMap_cons, List.length_append, List.length_cons] at ih ⊢
    rw [ih, show (recB3 a).length = 13 from rfl]
    omega
theorem flatR_append (a b : List (Bool × Int × Int)) : flatR (a ++ b) = flatR a ++ flatR b := by simp [flatR]
theorem flatR_cons (x : Bool × Int × Int) (L : List (Bool × Int × Int)) : flatR (x :: L) = recB3 x ++ flatR L := rfl
theorem flatR_b {L : List (Bool × Int × Int)} (h : RBd L) : ∀ x ∈ flatR L, 0 ≤ x ∧ x ≤ 255 := by
  intro x hx
  simp only [flatR, List.mem_flatMap] at hx
  obtain ⟨y, hy, hx⟩ := hx
  have := h y hy
  exact recB_b this.1.1 this.1.2 this.2.1 this.2.2 x hx

theorem n4_b4' (n : Int) : n4 (n / 16777216) (n / 65536 % 256) (n / 256 % 256) (n % 256) = n := by
  unfold n4
  omega
theorem rO_rec (x : Bool × Int × Int) (ys : List Int) : rO (recB3 x ++ ys) = x.1 := by
  obtain ⟨o, a, s⟩ := x
  cases o <;> rfl
theorem rA_rec (x : Bool × Int × Int) (ys : List Int) : rA (recB3 x ++ ys) = if x.1 then 0 else x.2.1 := by
  obtain ⟨o, a, s⟩ := x
  cases o
  · exact n4_b4' a
  · rfl
theorem rS_rec (x : Bool × Int × Int) (ys : List Int) : rS (recB3 x ++ ys) = x.2.2 := by
  obtain ⟨o, a, s⟩ := x
  exact n4_b4' s
theorem recB_norm (x : Bool × Int × Int) : recB x.1 (if x.1 then 0 else x.2.1) x.2.2 = recB3 x := by
  obtain ⟨o, a, s⟩ := x
  cases o <;> rfl
theorem okR_rec (x : Bool × Int × Int) (ys : List Int) : okR (recB3 x ++ ys) = true := by
  have hl : (recB3 x).length = 13 := rfl
  unfold okR
  rw [rO_rec, rA_rec, rS_rec, recB_norm, List.take_append_of_le_length (by omega), List.take_of_length_le (by omega), decide_eq_true rfl, Bool.and_true]
  exact decide_eq_true (by rw [List.length_append]; omega)
theorem okR_short {xs : List Int} (h : xs.length < 13) : okR xs = false := by
  unfold okR
  rw [decide_eq_false (by omega), Bool.false_and]

theorem rdJ_flat (L : List (Bool × Int × Int)) (r : List Int) (hr : okR r = false) : ∀ f, (flatR L ++ r).length ≤ f → rdJ f (flatR L ++ r) = L.map norm := by
  induction L with
  | nil =>
    intro f _
    simp only [flatR, List.flatMap_nil, List.nil_append, List.map_nil]
    exact rdJ_no hr f
  | cons x L ih =>
    intro f hf
    have hl : (recB3 x).length = 13 := rfl
    have he : flatR (x :: L) ++ r = recB3 x ++ (flatR L ++ r) := by simp [flatR]
    rw [he] at hf ⊢
    rw [rdJ_yes (okR_rec x _) hf, rO_rec, rA_rec, rS_rec]
    rw [List.drop_append_of_le_length (by omega), List.drop_of_length_le (by omega), List.nil_append, ih _ (by rw [List.length_append, hl] at hf; omega)]
    rfl
/-- What is read of records that are followed by what is none. -/
theorem jl_flat (L : List (Bool × Int × Int)) (r : List Int) (hr : okR r = false) : jl (flatR L ++ r) = L.map norm := rdJ_flat L r hr _ (Nat.le_refl _)
theorem jl_all (L : List (Bool × Int × Int)) : jl (flatR L) = L.map norm := by
  have := jl_flat L [] rfl
  rwa [List.append_nil] at this

theorem flatR_split (L : List (Bool × Int × Int)) (k : Nat) (hk : k < 13 * L.length) :
    ∃ x, L[k / 13]? = some x ∧ flatR L = flatR (L.take (k / 13)) ++ (recB3 x ++ flatR (L.drop (k / 13 + 1))) := by
  have hq : k / 13 < L.length := by omega
  refine ⟨L[k / 13], List.getElem?_eq_getElem hq, ?_⟩
  have e : L = L.take (k / 13) ++ L[k / 13] :: L.drop (k / 13 + 1) := by
    rw [List.getElem_cons_drop, List.take_append_drop]
  conv => lhs; rw [e]
  rw [flatR_append, flatR_cons]
theorem jl_cut (L : List (Bool × Int × Int)) (k : Nat) (hk : k < 13 * L.length) : jl ((flatR L).take k) = (L.take (k / 13)).map norm := by
  obtain ⟨x, _, he⟩ := flatR_split L k hk
  have hl : (flatR (L.take (k / 13))).length = 13 * (k / 13) := by
    rw [flatR_length, List.length_take, Nat.min_eq_left (by omega)]
  rw [he, List.take_append, List.take_of_length_le (by omega)]
  refine jl_flat _ _ (okR_short ?_)
  rw [List.length_take, hl]
  omega

theorem b4_inj {m n : Int} (h : b4 m = b4 n) : m = n := by
  simp only [b4, List.cons.injEq, and_true] at h
  omega
/-- A record in which one byte is another is none. -/
theorem okR_torn {x : Bool × Int × Int} (hx : (0 ≤ x.2.1 ∧ x.2.1 < 4294967296) ∧ 0 ≤ x.2.2 ∧ x.2.2 < 4294967296) {m : Nat} (hm : m < 13) {y z : Int} (hz : (recB3 x)[m]? = some z) (hy : 0 ≤ y ∧ y ≤ 255) (hne : y ≠ z) (r : List Int) (hr : ∀ u ∈ r, 0 ≤ u ∧ u ≤ 255) :
    okR ((recB3 x).set m y ++ r) = false := by
  cases hok : okR ((recB3 x).set m y ++ r)
  · rfl
  exfalso
  have hl : (recB3 x).length = 13 := rfl
  have hall : ∀ u ∈ (recB3 x).set m y ++ r, 0 ≤ u ∧ u ≤ 255 := by
    intro u hu
    rcases List.mem_append.1 hu with hu | hu
    · rcases List.mem_or_eq_of_mem_set hu with hu | rfl
      · exact recB_b hx.1.1 hx.1.2 hx.2.1 hx.2.2 u hu
      · exact hy
    · exact hr u hu
  simp only [okR, Bool.and_eq_true, decide_eq_true_eq] at hok
  have h2 := hok.2
  rw [List.take_append_of_le_length (by rw [List.length_set]; omega), List.take_of_length_le (by rw [List.length_set]; omega)] at h2
  have hg : ∀ i, i < 13 → 0 ≤ ((recB3 x).set m y ++ r).getD i 0 ∧ ((recB3 x).set m y ++ r).getD i 0 ≤ 255 := by
    intro i hi
    have hlt : i < ((recB3 x).set m y ++ r).length := by rw [List.length_append, List.length_set]; omega
    rw [show ((recB3 x).set m y ++ r).getD i 0 = ((recB3 x).set m y ++ r)[i] by simp only [List.getD, List.getElem?_eq_getElem hlt, Option.getD_some]]
    exact hall _ (List.getElem_mem hlt)
  have hA := n4_b' (hg 1 (by omega)) (hg 2 (by omega)) (hg 3 (by omega)) (hg 4 (by omega))
  have hS := n4_b' (hg 5 (by omega)) (hg 6 (by omega)) (hg 7 (by omega)) (hg 8 (by omega))
  have hH' := recH_b (o := rO ((recB3 x).set m y ++ r)) hA.1 hA.2 hS.1 hS.2
  change (recB3 x).set m y = recB _ (rA _) (rS _) at h2
  have hH : ∀ u ∈ recH x.1 x.2.1 x.2.2, 0 ≤ u ∧ u ≤ 255 := recH_b hx.1.1 hx.1.2 hx.2.1 hx.2.2
  generalize rO ((recB3 x).set m y ++ r) = o' at h2 hH'
  change ∀ u ∈ recH o' (rA _) (rS _), _ at hH'
  generalize rA ((recB3 x).set m y ++ r) = a' at h2 hH'
  generalize rS ((recB3 x).set m y ++ r) = s' at h2 hH'
  have hL : (recH x.1 x.2.1 x.2.2).length = 9 := rfl
  have hL' : (recH o' a' s').length = 9 := rfl
  change (recH x.1 x.2.1 x.2.2 ++ b4 (crc (recH x.1 x.2.1 x.2.2))).set m y = recH o' a' s' ++ b4 (crc (recH o' a' s')) at h2
  change (recH x.1 x.2.1 x.2.2 ++ b4 (crc (recH x.1 x.2.1 x.2.2)))[m]? = some z at hz
  generalize recH x.1 x.2.1 x.2.2 = H at hH hL h2 hz
  generalize recH o' a' s' = H' at hH' hL' h2
  by_cases h9 : m < 9
  · rw [List.set_append_left _ _ (by omega)] at h2
    have h3 := List.append_inj h2 (by rw [List.length_set, hL, hL'])
    have hc : crc H = crc H' := b4_inj h3.2
    have hn : crcN H = crcN H' := by unfold crc at hc; omega
    rw [List.getElem?_append_left (by omega)] at hz
    obtain ⟨hmL, rfl⟩ := List.getElem?_eq_some_iff.1 hz
    rw [← h3.1] at hn
    have e1 : H = H.take m ++ H[m] :: H.drop (m + 1) := by rw [List.getElem_cons_drop, List.take_append_drop]
    have e2 : H.set m y = H.take m ++ y :: H.drop (m + 1) := by
      rw [List.set_eq_take_append_cons_drop, if_pos hmL]
    have n1 : nats H = nats (H.take m) ++ H[m].toNat :: nats (H.drop (m + 1)) := (congrArg nats e1).trans (by unfold nats; rw [List.map_append, List.map_cons])
    have n2 : nats (H.set m y) = nats (H.take m) ++ y.toNat :: nats (H.drop (m + 1)) := (congrArg nats e2).trans (by unfold nats; rw [List.map_append, List.map_cons])
    unfold crcN at hn
    rw [n1, n2] at hn
    have hz0 := hH _ (List.getElem_mem hmL)
    have := Crc.run_other (by omega) (nats_b (take_b hH m)) (nats_b (fun u hu => hH u (List.mem_of_mem_drop hu))) (by omega) (by omega) hn
    omega
  · rw [List.set_append_right _ _ (by omega)] at h2
    have h3 := List.append_inj h2 (by rw [hL, hL'])
    rw [List.getElem?_append_right (by omega)] at hz
    have h4 := h3.2
    rw [← h3.1] at h4
    have h5 : ((b4 (crc H)).set (m - H.length) y)[m - H.length]? = some y := by
      rw [List.getElem?_set_self (by simp [b4_length]; omega)]
    rw [h4, hz] at h5
    exact hne (Option.some.inj h5).symm
end Go.Proofs.YtakaadcpaeiccabGreat

namespace Go.Proofs.YtakaadcpaeiccabGreat
open Go.RowKit

theorem okR_bytes {L : List (Bool × Int × Int)} (hb : RBd L) (k : Nat) : RBd (L.drop k) := fun x hx => hb x (List.mem_of_mem_drop hx)
/-- What is read where one byte is another. -/
theorem jl_torn {L : List (Bool × Int × Int)} (hb : RBd L) {k : Nat} (hk : k < 13 * L.length) {y z : Int} (hz : (flatR L)[k]? = some z) (hy : 0 ≤ y ∧ y ≤ 255) (hne : y ≠ z) :
    jl ((flatR L).set k y) = (L.take (k / 13)).map norm := by
  obtain ⟨x, hx, he⟩ := flatR_split L k hk
  have hl : (flatR (L.take (k / 13))).length = 13 * (k / 13) := by
    rw [flatR_length, List.length_take, Nat.min_eq_left (by omega)]
  have h13 : (recB3 x).length = 13 := rfl
  rw [he] at hz ⊢
  rw [List.getElem?_append_right (by omega), List.getElem?_append_left (by omega)] at hz
  rw [List.set_append_right _ _ (by omega), List.set_append_left _ _ (by omega)]
  exact jl_flat _ _ (okR_torn (hb x (List.mem_of_getElem? hx)) (by omega) hz hy hne _ (flatR_b (okR_bytes hb _)))

theorem RC_get (L : List (Bool × Int × Int)) (j : Nat) : (RC L)[j * 3]? = (L[j]?).map (fun x => Value.bool x.1) ∧ (RC L)[j * 3 + 1]? = (L[j]?).map (fun x => Value.int .u32 x.2.1) ∧ (RC L)[j * 3 + 2]? = (L[j]?).map (fun x => Value.int .u32 x.2.2) := by
  induction L generalizing j with
  | nil => simp [RC]
  | cons a L ih =>
    cases j with
    | zero => simp [RC]
    | succ j =>
      have h := ih j
      simp only [RC, List.flatMap_cons] at h ⊢
      rw [show (j + 1) * 3 = j * 3 + 1 + 1 + 1 by omega]
      simpa using h
theorem RC_oneCell (L : List (Bool × Int × Int)) : ∀ u ∈ RC L, u.oneCell' = true := by
  intro u hu
  simp only [RC, List.mem_flatMap, List.mem_cons, List.not_mem_nil, or_false] at hu
  obtain ⟨x, _, rfl | rfl | rfl⟩ := hu <;> rfl
end Go.Proofs.YtakaadcpaeiccabGreat
