import Derived.Test.YtpdjhcfkhblioaaF11
import Derived.Deep.CutRange
import Derived.Deep.RegionLaw
namespace Go.Proofs.Ytpdjhcfkhblioaa
open Go.RowKit Go.Maps

theorem sliceU_to (g n c k : Nat) (hk : k ≤ c) (W : World) : (Instr.slice 77 (.slice (some ⟨g, 0, none⟩) n c) none (some (.int .i64 k)) none).run Try.prog W = .ok (.slice (some ⟨g, 0, none⟩) k c) W := by
  have ht : Try.prog.underlying 77 = some (.slice (Try.prog.elem 77)) := by simp [Program.elem, Try.underlying77]
  have hz : ∀ w, (Go.sizeOf (Try.prog.elem 77)).run Try.prog w = .ok 1 w := by
    intro w
    simp [go_sem, Program.elem, Try.underlying77]
  rw [run_slice_h W 77 _ _ _ ht .i64 _ (by omega) (by omega), hz]
  simp only [Result.andThen, sliced]
  rw [Nat.sub_zero, Nat.sub_zero, Int.toNat_natCast]
  split <;> simp [Addr.add]
theorem sliceU_from (g n c k : Nat) (hk : k ≤ n) : ∃ ad : Addr, (∀ W, (Instr.slice 77 (.slice (some ⟨g, 0, none⟩) n c) (some (.int .i64 k)) none none).run Try.prog W = .ok (.slice (some ad) (n - k) (c - k)) W) ∧ (k < c → ad = ⟨g, k, none⟩) := by
  have ht : Try.prog.underlying 77 = some (.slice (Try.prog.elem 77)) := by simp [Program.elem, Try.underlying77]
  have hz : ∀ w, (Go.sizeOf (Try.prog.elem 77)).run Try.prog w = .ok 1 w := by
    intro w
    simp [go_sem, Program.elem, Try.underlying77]
  refine ⟨if c = k then ⟨g, 0, none⟩ else ⟨g, k, none⟩, fun W => ?_, fun h => by rw [if_neg (by omega)]⟩
  rw [run_slice_l W 77 _ _ _ ht .i64 _ (by omega) (by omega), hz]
  simp only [Result.andThen, sliced]
  rw [Int.toNat_natCast]
  split <;> simp [Addr.add_lit]
theorem sliceU_nil (i : Option Value) (j : Option Value) (hi : i = none ∨ i = some (.int .i64 0)) (hj : j = none ∨ j = some (.int .i64 0)) (W : World) : (Instr.slice 77 (.slice none 0 0) i j none).run Try.prog W = .ok (.slice none 0 0) W := by
  rcases hi with rfl | rfl <;> rcases hj with rfl | rfl <;> kernel_rfl
theorem appU_nil (W : World) : (Builtin.append_ #[77, 77] 77 #[.slice none 0 0, .slice none 0 0]).run Try.prog W = .ok (.slice none 0 0) W := by kernel_rfl
/-- A part of a row of numbers, as what an append takes. -/
theorem src_take {b m g c : Nat} {W W' : World} {cs : List Int} (h : W.ownsRow b 23 1 (.slice (some ⟨g, 0, none⟩) m c) m (cs.map encU)) (_hl : cs.length = m) {k : Nat} (hk : k ≤ m) (hW : W'.heap[g]? = W.heap[g]?) :
    ∀ (j : Nat) (u : Value), ((cs.take k).map encU)[j]? = some u → W'.cell? ((⟨g, 0, none⟩ : Addr).add j) = some u := by
  intro j u hj
  rw [List.map_take, List.getElem?_take] at hj
  split at hj
  · have hjl : j < m * 1 := by omega
    rw [Addr.add_lit, Nat.zero_add]
    exact (World.cell?_of_block (a := ⟨g, j, none⟩) hW).trans ((h.cellAt j hjl).trans hj)
  · cases hj
theorem src_drop {b m g c : Nat} {W W' : World} {cs : List Int} (h : W.ownsRow b 23 1 (.slice (some ⟨g, 0, none⟩) m c) m (cs.map encU)) (hl : cs.length = m) {k : Nat} (hk : k ≤ m) {ad : Addr} (had : k < c → ad = ⟨g, k, none⟩) (hW : W'.heap[g]? = W.heap[g]?) :
    Src Try.prog 1 77 (.slice (some ad) (m - k) (c - k)) (m - k) ((cs.drop k).map encU) W' := by
  have hmc : m ≤ c := by
    rcases h.2 with ⟨he, _⟩ | ⟨_, _, _, he, _, _, k3, _⟩
    · cases he
    · cases he; exact k3
  refine Src.ofSlice W' Try.underlying77 ad (m - k) (c - k) _ (by simp; omega) ?_ (one_u _)
  intro j u hj
  have hjl := (List.getElem?_eq_some_iff.1 hj).1
  rw [List.length_map, List.length_drop, hl] at hjl
  rw [had (by omega), Addr.add_lit]
  rw [List.map_drop, List.getElem?_drop] at hj
  exact (World.cell?_of_block (a := ⟨g, k + j, none⟩) hW).trans ((h.cellAt (k + j) (by omega)).trans hj)
/-- 'append' of a source onto a row of the call's own, as one step of a region that draws its order. -/
theorem step_append_src {P : Program} {ops : Array Oper} {o : Oper} {a : Act} {w : World} {K : Act → World → Prop} {Q : Exit → Act → World → Prop} {E : Prop}
    (hg : o.guard = none) (s x : Operand) (t tx : TypeId) (hop : o.op = Op.call { callee := Callee.builtin Builtin.append, args := #[s, x], argTypes := #[t, tx] })
    (base : Nat) (e : TypeId) (i : TypeInfo) (z : Value) (size bytes : Nat) (h1 : P.underlying t = some (.slice e)) (h2 : P.info? e = some i) (h3 : i.zero = some z) (h4 : i.size = size) (h5 : i.bytes = bytes) (h6 : z.cells.size = size)
    (v : Value) (n : Nat) (xs : List Value) (hs : a.eval s = v) (hown : w.ownsRow base e size v n xs) (hv : v ≠ .slice none 0 0)
    (xv : Value) (m : Nat) (news : List Value) (hx : a.eval x = xv) (hsrc : Src P size tx xv m news w)
    (b1 : n + m ≤ maxLen) (b2 : (n + m) * bytes ≤ 140737488355328) (hbase : base ≤ w.heap.size)
    (hK : ∀ v' w', w'.ownsRow base e size v' (n + m) (xs ++ news) → w.grownBy w' v.ownBlock → v' ≠ .slice none 0 0 → K (a.put o.dst v') w') :
    if Region.wanted o (yielded ops a.tmps) = true then Oper.wp P o a w K Q else E := by
  have hw : Region.wanted o (yielded ops a.tmps) = true := by simp [Region.wanted, hg]
  rw [if_pos hw]
  exact wp_append_own_src w s x t tx hop base e i z size bytes h1 h2 h3 h4 h5 h6 v n xs hs hown hv xv m news hx hsrc b1 b2 hbase hK
theorem cells_u (W : World) (n : Int) : ∀ (j : Nat) (u : Value), [encU n][j]? = some u → (W.alloc (.cells #[.int .u32 n] 23)).cell? ((⟨W.heap.size, 0, none⟩ : Addr).add j) = some u := by
  intro j u hj
  have h := heap_alloc_new W (.cells #[.int .u32 n] 23)
  rw [Addr.add_lit, Nat.zero_add]
  match j, hj with
  | 0, hj => exact (cell_of_row _ _ 0 _ _ _ h).trans hj
  | j + 1, hj => simp at hj
/-- Is what stands at a place below a number, is it that number? -/
def lessAt (l : List Int) (k : Nat) (n : Int) : Bool := match l[k]? with | some y => decide (y < n) | none => false
theorem lessAt_some {l : List Int} {k : Nat} {n y : Int} (h : l[k]? = some y) : lessAt l k n = decide (y < n) := by unfold lessAt; rw [h]
theorem lessAt_none {l : List Int} {k : Nat} {n : Int} (h : l.length ≤ k) : lessAt l k n = false := by unfold lessAt; rw [List.getElem?_eq_none h]
theorem less_hi {l : List Int} (hs : l.Pairwise (· < ·)) {k : Nat} {n : Int} (h : lessAt l k n = false) : ∀ i y, k ≤ i → l[i]? = some y → n ≤ y := by
  intro i y hi hy
  obtain ⟨hil, rfl⟩ := List.getElem?_eq_some_iff.1 hy
  have hk : k < l.length := by omega
  rw [lessAt_some (List.getElem?_eq_getElem hk)] at h
  have h1 : n ≤ l[k] := by have := of_decide_eq_false h; omega
  rcases Nat.eq_or_lt_of_le hi with e | e
  · subst e; exact h1
  · have := List.pairwise_iff_getElem.1 hs k i hk hil e
    omega
theorem mem_at {l : List Int} {k : Nat} {n : Int} (hlo : ∀ i y, i < k → l[i]? = some y → y < n) (hhi : ∀ i y, k ≤ i → l[i]? = some y → n ≤ y) (hs : l.Pairwise (· < ·)) : n ∈ l ↔ l[k]? = some n := by
  constructor
  · intro hm
    obtain ⟨i, hi⟩ := List.getElem?_of_mem hm
    rcases Nat.lt_trichotomy i k with h | h | h
    · have := hlo i n h hi; omega
    · subst h; exact hi
    · obtain ⟨hil, hie⟩ := List.getElem?_eq_some_iff.1 hi
      have hk : k < l.length := by omega
      have h1 := hhi k _ (Nat.le_refl _) (List.getElem?_eq_getElem hk)
      have := List.pairwise_iff_getElem.1 hs k i hk hil h
      omega
  · exact List.mem_of_getElem?
/-- What Before leaves where it has written. -/
theorem RM.befSet {me : Int} {T : Nat} {L : List (Rt × Value)} {S : Nat → Prop} {w w7 : World} {G cap j k : Nat} {x : Rt} {u v7 : Value} {d n : Int} (hM : RM me T (.slice (some ⟨G, 0, none⟩) L.length cap) L w) (hS : ∀ k, RIn T (.slice (some ⟨G, 0, none⟩) L.length cap) L k → S k) (hp : L[j]? = some (x, u)) (hxd : x.dest = d) (hn : U32 n) (hxv : x.valid = true) (h4 : x.bef.length < 4) (hni : n ∉ x.bef)
    (hk : k ≤ x.bef.length) (hlo : ∀ i y, i < k → x.bef[i]? = some y → y < n) (hhi : ∀ i y, k ≤ i → x.bef[i]? = some y → n ≤ y)
    (ho : w7.ownsRow w.heap.size 23 1 v7 (k + 1 + (x.bef.length - k)) ((x.bef.take k).map encU ++ ([encU n] ++ (x.bef.drop k).map encU))) (hb : Below w.heap.size w w7) :
    RTab me T (ext S w.heap.size (w7.setCell ⟨G, j * 7 + 6, none⟩ v7).heap.size) (befL (L.map (·.1)) d n) (w7.setCell ⟨G, j * 7 + 6, none⟩ v7) ∧ Fx S w (w7.setCell ⟨G, j * 7 + 6, none⟩ v7) := by
  have hok := hM.ok _ (List.mem_of_getElem? hp)
  dsimp only at hok
  have e1 : x.bef.take k ++ n :: x.bef.drop k = insU n x.bef := insU_at (fun j y hj hy => hlo j y hj hy) (fun j y hj hy => hhi j y hj hy) hk hni
  have hlen := insU_length n x.bef hni
  have e2 : (x.bef.take k).map encU ++ ([encU n] ++ (x.bef.drop k).map encU) = (insU n x.bef).map encU := by rw [← e1]; simp
  have hrow : w7.ownsRow 0 23 1 v7 (insU n x.bef).length ((insU n x.bef).map encU) := by
    rw [e2, show k + 1 + (x.bef.length - k) = (insU n x.bef).length by omega] at ho
    exact ownsRow_base_a ho (Nat.zero_le _)
  have hM7 := hM.later hb
  have hok' : ({ x with bef := insU n x.bef } : Rt).Ok := ⟨hok.dest, hok.seq, hok.hops, hok.next, hok.exp, by dsimp only; omega, fun b hb => by
    rcases (mem_insU n x.bef b).1 hb with rfl | h
    · exact hn
    · exact hok.bef b h, insU_lt _ _ hok.asc⟩
  have a1 := hM7.store1 (i := 6) (p' := ({ x with bef := insU n x.bef }, v7)) (u := v7) hp (by omega) rfl rfl hok' hrow
  have ht := RTab.turned (S := ext S w.heap.size (w7.setCell ⟨G, j * 7 + 6, none⟩ v7).heap.size) a1.1 hM.asc hp (fun k hk => .inl (hS k hk)) (fun q hq => .inr ⟨(ho.lt q hq).1, by
    have := (ho.lt q hq).2
    simpa using this⟩) (befF n) (by unfold befF; rw [if_pos ⟨hxv, h4, hni⟩])
  dsimp only at ht
  rw [hxd] at ht
  exact ⟨ht, (Fx.below (S := S) hb).trans (Fx.grown (S := S) a1.2 (fun k e => by cases e; exact hS _ RM.inG)) (fun _ _ h => h)⟩

set_option maxRecDepth 100000 in
set_option maxHeartbeats 4000000 in
theorem rBefore_some {me : Int} {T : Nat} {L : List (Rt × Value)} {S : Nat → Prop} {w : World} {G cap g uc : Nat} {x : Rt} (hM : RM me T (.slice (some ⟨G, 0, none⟩) L.length cap) L w) (hS : ∀ k, RIn T (.slice (some ⟨G, 0, none⟩) L.length cap) L k → S k) (d n : Int) (hn : U32 n) (hl : lineOf (L.map (·.1)) d = some x) (hp : L[pos (L.map (·.1)) d]? = some (x, .slice (some ⟨g, 0, none⟩) x.bef.length uc)) (hxd : x.dest = d) (hxv : x.valid = true) :
    Calls Try.prog 42 #[.pointer (some ⟨T, 0, none⟩), .int .u32 d, .int .u32 n] w fun e w' => e = .returned (.tuple #[]) ∧ RTab me T (ext S w.heap.size w'.heap.size) (befL (L.map (·.1)) d n) w' ∧ Fx S w w' := by
  obtain ⟨i0, hi, hz0, hz1, hz2⟩ := info_parts info_u32
  have hmem := List.mem_of_getElem? hp
  have HL := line_any hM d
  rw [hl] at HL
  have HLh := (show Hid _ from HL)
  have hok := hM.ok _ hmem
  have hasc := hok.asc
  have hb4 := hok.befs
  dsimp only at hasc hb4
  have hj := (List.getElem?_eq_some_iff.1 hp).1
  have hlen := hM.len
  have hsame : befF n x = x → Hid (∀ w', Below w.heap.size w w' → RTab me T (ext S w.heap.size w'.heap.size) (befL (L.map (·.1)) d n) w' ∧ Fx S w w') := fun hF w' hb =>
    ⟨(RTab.same hM hS hb (modL_id hM.asc fun y hy => by rw [hl] at hy; cases hy; exact hF)).1.mono (fun _ h => .inl h), Fx.below hb⟩
  have hfinI := fun {w7 v7 k} => RM.befSet (w7 := w7) (v7 := v7) (k := k) hM hS hp hxd hn hxv
  have hrow := hM.bef _ hmem
  dsimp only at hrow
  have hgl := (hrow.lt g rfl).2
  have hcapn : x.bef.length ≤ uc := by
    rcases hrow.2 with ⟨he, _⟩ | ⟨_, _, _, he, _, _, k3, _⟩
    · cases he
    · cases he; exact k3
  have hC : Hid (∀ W, Below w.heap.size w W → W.cell? ⟨T, 0, none⟩ = some (.int .u32 me) ∧ W.cell? ⟨T, 1, none⟩ = some (.slice (some ⟨G, 0, none⟩) L.length cap) ∧ W.cell? ⟨G, pos (L.map (·.1)) d * 7 + 4, none⟩ = some (.bool true) ∧ W.cell? ⟨G, pos (L.map (·.1)) d * 7 + 6, none⟩ = some (.slice (some ⟨g, 0, none⟩) x.bef.length uc) ∧ W.frozen? ⟨G, pos (L.map (·.1)) d * 7 + 6, none⟩ = false ∧ W.ownsRow 0 23 1 (.slice (some ⟨g, 0, none⟩) x.bef.length uc) x.bef.length (x.bef.map encU) ∧ W.heap[g]? = w.heap[g]?) := by
    intro W hb
    have hMW := hM.later hb
    obtain ⟨G', cap', hv, hc, hf⟩ := hMW.at hp
    cases hv
    exact ⟨hMW.cell.1, hMW.cell.2, by rw [← hxv]; exact hc 4 _ rfl, hc 6 _ rfl, hf _, hMW.bef _ hmem, hb.block g hgl⟩
  have hpj : (pos (L.map (·.1)) d : Int) < (L.length : Int) := by omega
  have hxh := (show Hid _ from hxd)
  clear hM hS hl HL hok hmem hxd hxv hp hrow
  generalize pos (L.map (·.1)) d = j at hj hpj HLh hfinI hC
  go_enter Try.func42, Try.ntmps42
  go_wp2_with fail
  refine Calls.mono HLh.out ?_
  rintro e w1 ⟨rfl, q, rfl⟩
  clear HLh
  simp only [Option.isSome_some]
  have hb1 := draws_below w q
  generalize World.drewN w q = W1 at hb1 ⊢
  obtain ⟨t0, t1, c4, c6, f6, hrow, hgW⟩ := hC.out W1 hb1
  go_wp2_with fail
  go_loopw [9] (fun i wr => ∃ k : Nat, k ≤ x.bef.length ∧ i = .int .i64 k ∧ Hid (∀ j y, j < k → x.bef[j]? = some y → y < n) ∧ W1 = wr) (fun i _ => x.bef.length - (intOf i).toNat)
  case atStart => exact ⟨0, Nat.zero_le _, rfl, fun j y hj => by omega, rfl⟩
  case round =>
    obtain ⟨k, hk, rfl, hlo, hW⟩ := hrel
    subst hW
    have hat := fun hlt : k < x.bef.length => hrow.cellAt k (by omega)
    by_cases hlt : k < x.bef.length
    · have hki : (k : Int) < (x.bef.length : Int) := by omega
      obtain ⟨y, hy⟩ : ∃ y, x.bef[k]? = some y := ⟨_, List.getElem?_eq_getElem hlt⟩
      have d0 := hat hlt
      rw [List.getElem?_map, hy] at d0
      simp only [Option.map_some, encU] at d0
      by_cases hyn : y < n
      · have hlo2 : Hid (∀ j y, j < k + 1 → x.bef[j]? = some y → y < n) := fun j z hj hz => by
          by_cases e : j = k
          · subst e
            rw [hy] at hz
            cases hz
            exact hyn
          · exact hlo.out j z (by omega) hz
        have hyd : decide (y < n) = true := decide_eq_true hyn
        clear hat hfinI hsame hC hyn hy
        go_wp2
        go_roundw
        case rel => exact ⟨k + 1, by omega, by go_num, hlo2, trivial⟩
        case measure => simp [intOf]; omega
      · have hhi := (show Hid _ from less_hi hasc (by rw [lessAt_some hy]; exact decide_eq_false hyn : lessAt x.bef k n = false))
        have hmm := mem_at hlo.out hhi.out hasc
        have hyd : decide (y < n) = false := decide_eq_false hyn
        by_cases hye : y = n
        · have hout : ¬ (x.bef.length < 4 ∧ n ∉ x.bef) := fun h => h.2 (hmm.2 (by rw [hy, hye]))
          have hyb : (y == n) = true := by simpa using hye
          have hF := hsame (by
            unfold befF
            rw [if_neg]
            rintro ⟨_, h1, h2⟩
            exact hout ⟨h1, h2⟩)
          clear hout hfinI hsame hlo hC hat hmm hhi hyn hye hy
          go_wp2
          go_returns
          exact ⟨rfl, hF.out _ hb1⟩
        · have hni : n ∉ x.bef := fun h => hye (by have := hmm.1 h; rw [hy] at this; cases this; rfl)
          have hyb : (y == n) = false := by simpa using hye
          clear hat hmm hyn hye hy
          by_cases h4 : 4 ≤ x.bef.length
          · have hout : ¬ (x.bef.length < 4 ∧ n ∉ x.bef) := fun h => by omega
            have h4d : decide (4 ≤ x.bef.length) = true := decide_eq_true h4
            have h4i : decide ((4 : Int) ≤ (x.bef.length : Int)) = true := decide_eq_true (by omega)
            have hF := hsame (by
              unfold befF
              rw [if_neg]
              rintro ⟨_, h1, h2⟩
              exact hout ⟨h1, h2⟩)
            clear hout hfinI hsame hlo hC hhi hni h4
            go_wp2
            go_returns
            exact ⟨rfl, hF.out _ hb1⟩
          · have h4d : decide (4 ≤ x.bef.length) = false := decide_eq_false h4
            have h4i : decide ((4 : Int) ≤ (x.bef.length : Int)) = false := decide_eq_false (by omega)
            have h4 : x.bef.length < 4 := by omega
            have hfin : Hid (∀ v7 w7, _) := fun v7 w7 => hfinI (w7 := w7) (v7 := v7) (k := k) h4 hni hk hlo.out hhi.out
            have hs1 := sliceU_to g x.bef.length uc k (by omega)
            obtain ⟨ad, hs2, had⟩ := sliceU_from g x.bef.length uc k hk
            have hcT := (show Hid _ from src_take (W' := W1) hrow rfl hk rfl)
            have hsrcI : Hid (∀ W' : World, W'.heap[g]? = w.heap[g]? → Src Try.prog 1 77 (.slice (some ad) (x.bef.length - k) (uc - k)) (x.bef.length - k) ((x.bef.drop k).map encU) W') := fun W' hW' => src_drop (W' := W') hrow rfl hk had (hW'.trans hgW.symm)
            have hlt1 : ((x.bef.take k).map encU).length = k * 1 := by rw [List.length_map, List.length_take, Nat.min_eq_left hk, Nat.mul_one]
            have hone1 := (show Hid _ from one_u (x.bef.take k))
            generalize (x.bef.take k).map encU = tk at hfin hcT hlt1 hone1
            generalize (x.bef.drop k).map encU = dk at hfin hsrcI
            have hk1 : Hid (0 + k ≤ maxLen) := by show _ ≤ _; unfold maxLen; omega
            have hk2 : Hid ((0 + k) * 4 ≤ 140737488355328) := by show _ ≤ _; omega
            have hk3 : Hid (k + 1 + (x.bef.length - k) ≤ maxLen) := by show _ ≤ _; unfold maxLen; omega
            have hk4 : Hid ((k + 1 + (x.bef.length - k)) * 4 ≤ 140737488355328) := by show _ ≤ _; omega
            have hk5 : Hid (k + 1 ≤ maxLen) := by show _ ≤ _; unfold maxLen; omega
            have hk6 : Hid ((k + 1) * 4 ≤ 140737488355328) := by show _ ≤ _; omega
            have hs0 := hb1.size
            have hkL : (k : Int) ≤ (x.bef.length : Int) := by omega
            clear hni h4 hsame hfinI hlo hhi hasc had hrow hgW t0 t1 c4 c6 f6
            go_wp2_with (at_builtin; refine wpList_append_own_at _ rfl _ _ 77 rfl w.heap.size 23 i0 (.int .u32 0) 1 4 Try.underlying77 hi hz0 hz1 hz2 rfl (by decide) (.slice none 0 0) 0 [] rfl ⟨rfl, .inl ⟨rfl, rfl⟩⟩ ⟨g, 0, none⟩ k uc tk rfl hlt1 hcT.out hone1.out hk1.out hk2.out hs0 ?_)
            intro v1 w1 ho1 hg1 _ _
            have hb2 : Below w.heap.size w w1 := hb1.grown hg1 hs0 (fun k e => by cases e)
            have hw1 := hb2.size
            have hlt2 := ho1.lt
            clear hs1 hcT hg1 hk1 hk2 hs0 hone1
            go_wp2_with (at_builtin; refine wpList_append_own_at _ rfl _ _ 77 rfl w.heap.size 23 i0 (.int .u32 0) 1 4 Try.underlying77 hi hz0 hz1 hz2 rfl (by decide) v1 k tk rfl (ho1.alloc _) ⟨w1.heap.size, 0, none⟩ 1 1 [encU n] rfl rfl (cells_u w1 n) (fun u hu => by simp at hu; subst hu; rfl) hk5.out hk6.out ?c3 ?_)
            case c3 => simp; omega
            intro v2 w2 ho2 hg2 hn2 _
            have hv2 : v2 ≠ .slice none 0 0 := hn2
            have hb3 : Below w.heap.size w w2 := (hb2.alloc hb2.size _).grown hg2 (by simp; omega) (fun k e => (hlt2 k e).1)
            have hlt3 := ho2.lt
            have hB7 : Hid (∀ w7, w2.drew.grownBy w7 v2.ownBlock → Below w.heap.size w w7) := fun w7 hg => (below_drewN hb3 1).grown hg hb3.size (fun k e => (hlt3 k e).1)
            have hsrc := hsrcI.out w2.drew (hb3.block g hgl)
            have hw2 : w.heap.size ≤ w2.drew.heap.size := hb3.size
            obtain ⟨t0, t1, c4, c6, f6, _, _⟩ := hC.out w2 hb3
            obtain ⟨ao2, cp2, rfl, _⟩ := row_form ho2
            clear hsrcI ho1 hg2 hn2 hlt2 hlt3 hk5 hk6 hb2 hw1 hb1
            go_wp2_with fail
            go_region_law (refine step_append_src rfl (.tmp 83) (.tmp 86) 77 77 rfl w.heap.size 23 i0 (.int .u32 0) 1 4 Try.underlying77 hi hz0 hz1 hz2 rfl (.slice ao2 (k + 1) cp2) (k + 1) _ (by simp [Act.eval, Act.put]) ho2.drew hv2 (.slice (some ad) (x.bef.length - k) (uc - k)) (x.bef.length - k) _ (by simp [Act.eval, Act.put]) hsrc hk3.out hk4.out hw2 ?_; intro v7 w7 ho7 hg7 hn7; have hb7 := hB7.out w7 hg7; obtain ⟨ao7, cp7, rfl, _⟩ := row_form ho7; obtain ⟨t07, t17, c47, c67, f67, _, _⟩ := hC.out w7 hb7)
            all_goals
              have hf7 := hfin.out _ _ (by first | exact ho7 | (rw [← List.append_assoc]; exact ho7)) hb7
              go_wp2
              go_returns
              exact ⟨rfl, hf7⟩
    · have hki : ¬ (k : Int) < (x.bef.length : Int) := by omega
      have hhi := (show Hid _ from less_hi hasc (lessAt_none (by omega) : lessAt x.bef k n = false))
      have hmm := mem_at hlo.out hhi.out hasc
      have hni : n ∉ x.bef := fun h => by have := hmm.1 h; rw [List.getElem?_eq_none (by omega)] at this; cases this
      clear hat hmm
      by_cases h4 : 4 ≤ x.bef.length
      · have hout : ¬ (x.bef.length < 4 ∧ n ∉ x.bef) := fun h => by omega
        have h4d : decide (4 ≤ x.bef.length) = true := decide_eq_true h4
        have h4i : decide ((4 : Int) ≤ (x.bef.length : Int)) = true := decide_eq_true (by omega)
        have hF := hsame (by
          unfold befF
          rw [if_neg]
          rintro ⟨_, h1, h2⟩
          exact hout ⟨h1, h2⟩)
        clear hout hfinI hsame hlo hC hhi hni h4
        go_wp2
        go_returns
        exact ⟨rfl, hF.out _ hb1⟩
      · have h4d : decide (4 ≤ x.bef.length) = false := decide_eq_false h4
        have h4i : decide ((4 : Int) ≤ (x.bef.length : Int)) = false := decide_eq_false (by omega)
        have h4 : x.bef.length < 4 := by omega
        have hfin : Hid (∀ v7 w7, _) := fun v7 w7 => hfinI (w7 := w7) (v7 := v7) (k := k) h4 hni hk hlo.out hhi.out
        have hs1 := sliceU_to g x.bef.length uc k (by omega)
        obtain ⟨ad, hs2, had⟩ := sliceU_from g x.bef.length uc k hk
        have hcT := (show Hid _ from src_take (W' := W1) hrow rfl hk rfl)
        have hsrcI : Hid (∀ W' : World, W'.heap[g]? = w.heap[g]? → Src Try.prog 1 77 (.slice (some ad) (x.bef.length - k) (uc - k)) (x.bef.length - k) ((x.bef.drop k).map encU) W') := fun W' hW' => src_drop (W' := W') hrow rfl hk had (hW'.trans hgW.symm)
        have hlt1 : ((x.bef.take k).map encU).length = k * 1 := by rw [List.length_map, List.length_take, Nat.min_eq_left hk, Nat.mul_one]
        have hone1 := (show Hid _ from one_u (x.bef.take k))
        generalize (x.bef.take k).map encU = tk at hfin hcT hlt1 hone1
        generalize (x.bef.drop k).map encU = dk at hfin hsrcI
        have hk1 : Hid (0 + k ≤ maxLen) := by show _ ≤ _; unfold maxLen; omega
        have hk2 : Hid ((0 + k) * 4 ≤ 140737488355328) := by show _ ≤ _; omega
        have hk3 : Hid (k + 1 + (x.bef.length - k) ≤ maxLen) := by show _ ≤ _; unfold maxLen; omega
        have hk4 : Hid ((k + 1 + (x.bef.length - k)) * 4 ≤ 140737488355328) := by show _ ≤ _; omega
        have hk5 : Hid (k + 1 ≤ maxLen) := by show _ ≤ _; unfold maxLen; omega
        have hk6 : Hid ((k + 1) * 4 ≤ 140737488355328) := by show _ ≤ _; omega
        have hs0 := hb1.size
        have hkL : (k : Int) ≤ (x.bef.length : Int) := by omega
        clear hni h4 hsame hfinI hlo hhi hasc had hrow hgW t0 t1 c4 c6 f6
        go_wp2_with (at_builtin; refine wpList_append_own_at _ rfl _ _ 77 rfl w.heap.size 23 i0 (.int .u32 0) 1 4 Try.underlying77 hi hz0 hz1 hz2 rfl (by decide) (.slice none 0 0) 0 [] rfl ⟨rfl, .inl ⟨rfl, rfl⟩⟩ ⟨g, 0, none⟩ k uc tk rfl hlt1 hcT.out hone1.out hk1.out hk2.out hs0 ?_)
        intro v1 w1 ho1 hg1 _ _
        have hb2 : Below w.heap.size w w1 := hb1.grown hg1 hs0 (fun k e => by cases e)
        have hw1 := hb2.size
        have hlt2 := ho1.lt
        clear hs1 hcT hg1 hk1 hk2 hs0 hone1
        go_wp2_with (at_builtin; refine wpList_append_own_at _ rfl _ _ 77 rfl w.heap.size 23 i0 (.int .u32 0) 1 4 Try.underlying77 hi hz0 hz1 hz2 rfl (by decide) v1 k tk rfl (ho1.alloc _) ⟨w1.heap.size, 0, none⟩ 1 1 [encU n] rfl rfl (cells_u w1 n) (fun u hu => by simp at hu; subst hu; rfl) hk5.out hk6.out ?c3 ?_)
        case c3 => simp; omega
        intro v2 w2 ho2 hg2 hn2 _
        have hv2 : v2 ≠ .slice none 0 0 := hn2
        have hb3 : Below w.heap.size w w2 := (hb2.alloc hb2.size _).grown hg2 (by simp; omega) (fun k e => (hlt2 k e).1)
        have hlt3 := ho2.lt
        have hB7 : Hid (∀ w7, w2.drew.grownBy w7 v2.ownBlock → Below w.heap.size w w7) := fun w7 hg => (below_drewN hb3 1).grown hg hb3.size (fun k e => (hlt3 k e).1)
        have hsrc := hsrcI.out w2.drew (hb3.block g hgl)
        have hw2 : w.heap.size ≤ w2.drew.heap.size := hb3.size
        obtain ⟨t0, t1, c4, c6, f6, _, _⟩ := hC.out w2 hb3
        obtain ⟨ao2, cp2, rfl, _⟩ := row_form ho2
        clear hsrcI ho1 hg2 hn2 hlt2 hlt3 hk5 hk6 hb2 hw1 hb1
        go_wp2_with fail
        go_region_law (refine step_append_src rfl (.tmp 83) (.tmp 86) 77 77 rfl w.heap.size 23 i0 (.int .u32 0) 1 4 Try.underlying77 hi hz0 hz1 hz2 rfl (.slice ao2 (k + 1) cp2) (k + 1) _ (by simp [Act.eval, Act.put]) ho2.drew hv2 (.slice (some ad) (x.bef.length - k) (uc - k)) (x.bef.length - k) _ (by simp [Act.eval, Act.put]) hsrc hk3.out hk4.out hw2 ?_; intro v7 w7 ho7 hg7 hn7; have hb7 := hB7.out w7 hg7; obtain ⟨ao7, cp7, rfl, _⟩ := row_form ho7; obtain ⟨t07, t17, c47, c67, f67, _, _⟩ := hC.out w7 hb7)
        all_goals
          have hf7 := hfin.out _ _ (by first | exact ho7 | (rw [← List.append_assoc]; exact ho7)) hb7
          go_wp2
          go_returns
          exact ⟨rfl, hf7⟩
end Go.Proofs.Ytpdjhcfkhblioaa
