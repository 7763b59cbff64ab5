import Derived.Test.YtakaadcpaeiccabGreatC57
import Derived.Test.YtakaadcpaeiccabGreatC46
import Derived.Test.YtakaadcpaeiccabGreatC52
import Derived.Test.YtakaadcpaeiccabGreatC28
namespace Go.Proofs.YtakaadcpaeiccabGreat
open Go.RowKit Go.Maps

/-! A station more in a mesh. -/
theorem snoc_cases {α : Type} {L : List α} {j : Nat} {a b : α} (h : (L ++ [a])[j]? = some b) : L[j]? = some b ∨ (j = L.length ∧ b = a) := by
  by_cases hj : j < L.length
  · rw [List.getElem?_append_left hj] at h
    exact .inl h
  · rw [List.getElem?_append_right (by omega)] at h
    obtain ⟨h1, h2⟩ := List.getElem?_eq_some_iff.1 h
    have h3 : j - L.length = 0 := by simpa using h1
    refine .inr ⟨by omega, ?_⟩
    simp only [h3, List.getElem_cons_zero] at h2
    exact h2.symm
theorem lt_of_some {α : Type} {L : List α} {j : Nat} {b : α} (h : L[j]? = some b) : j < L.length := (List.getElem?_eq_some_iff.1 h).1
theorem MM.add {y : MG} {m : Msh} {W : World} (h : MM y m W) {x : SG} {s : Stn} (hx : StM x s W) (hap : ∀ k, StIn x s k → ¬ MIn y m k) {v7 : Value} {w7 : World} (ho : w7.ownsRow 0 94 1 v7 (m.S.length + 1) (PtC y.L ++ PtC [x])) (hg : W.grownBy w7 y.sv.ownBlock) (hv : v7.ownBlock = y.sv.ownBlock ∨ v7.ownBlock = some W.heap.size) :
    (w7.cell? ⟨y.G, 1, none⟩ = some y.sv ∧ w7.frozen? ⟨y.G, 1, none⟩ = false) ∧ MM { y with L := y.L ++ [x], sv := v7 } { m with S := m.S ++ [s] } (w7.setCell ⟨y.G, 1, none⟩ v7) ∧ ∀ k, MIn { y with L := y.L ++ [x], sv := v7 } { m with S := m.S ++ [s] } k → MIn y m k ∨ StIn x s k ∨ (W.heap.size ≤ k ∧ k < (w7.setCell ⟨y.G, 1, none⟩ v7).heap.size) := by
  have hne : y.sv.ownBlock ≠ some y.G := row_not h.sts h.blk (fun c e => (by cases e))
  have hblk := hg.block _ (some_lt h.blk) fun e => hne e.symm
  obtain ⟨_, c1, _, fz⟩ := h.cell
  have hb7 := hblk.trans h.blk
  have hg2 : w7.grownBy (w7.setCell ⟨y.G, 1, none⟩ v7) (some y.G) := grown_cellOf (grown_self _ (some y.G)) 1 _
  have hsz := hg.size
  have hkeep : ∀ k, k < W.heap.size → k ≠ y.G → y.sv.ownBlock ≠ some k → (w7.setCell ⟨y.G, 1, none⟩ v7).heap[k]? = W.heap[k]? := fun k hk h1 h2 => (hg2.block k (by omega) fun e => h1 (Option.some.inj e)).trans (hg.block k hk fun e => h2 e.symm)
  have hst : ∀ (i : Nat) z u, y.L[i]? = some z → m.S[i]? = some u → StM z u (w7.setCell ⟨y.G, 1, none⟩ v7) := fun i z u h1 h2 => (h.st i z u h1 h2).kept fun k hk => by
    obtain ⟨q1, q2, _⟩ := h.own h1 h2 hk
    exact hkeep k ((h.st i z u h1 h2).lt hk) q1 q2
  have hxs : StM x s (w7.setCell ⟨y.G, 1, none⟩ v7) := hx.kept fun k hk => hkeep k (hx.lt hk) (fun e => hap k hk (.inl e)) fun e => hap k hk (.inr (.inl e))
  have hll := h.len
  refine ⟨⟨(World.cell?_of_block (a := ⟨y.G, 1, none⟩) hblk).trans c1, (World.frozen?_of_block (a := ⟨y.G, 1, none⟩) hblk).trans (fz 1)⟩, ⟨?_, ?_, ?_, ?_, fun i z u h1 h2 => ?_, fun i j z u z' u' hij h1 h2 h3 h4 k hk hk' => ?_⟩, fun k hk => ?_⟩
  · simp [World.setCell, Array.getElem?_modify, hb7]
  · have hr := ho.kept hg2 (.inr (row_not ho hb7 (fun c e => (by cases e))))
    show World.ownsRow _ 0 _ 1 v7 (m.S ++ [s]).length (PtC (y.L ++ [x]))
    rw [List.length_append, show PtC (y.L ++ [x]) = PtC y.L ++ PtC [x] from List.map_append]
    exact hr
  · refine row_at h.air fun k hk => hkeep k (h.air.lt k hk).2 (fun e => ?_) fun e => ?_
    · subst e
      exact row_not h.air h.blk (fun c e => (by cases e)) hk
    · rcases rows_apart h.sts h.air (by decide) with q | q
      · rw [q] at e
        cases e
      · exact q (e.trans hk.symm)
  · show (y.L ++ [x]).length = (m.S ++ [s]).length
    rw [List.length_append, List.length_append, hll]
    rfl
  · rcases snoc_cases h1 with h1 | ⟨e1, rfl⟩
    · rcases snoc_cases h2 with h2 | ⟨e2, _⟩
      · exact hst i z u h1 h2
      · have := lt_of_some h1
        omega
    · rcases snoc_cases h2 with h2 | ⟨_, rfl⟩
      · have := lt_of_some h2
        omega
      · exact hxs
  · rcases snoc_cases h1 with p1 | ⟨e1, rfl⟩
    · rcases snoc_cases h2 with p2 | ⟨e2, _⟩
      · rcases snoc_cases h3 with h3 | ⟨e3, rfl⟩
        · rcases snoc_cases h4 with h4 | ⟨e4, _⟩
          · exact h.ap i j z u z' u' hij p1 p2 h3 h4 k hk hk'
          · have := lt_of_some h3
            omega
        · rcases snoc_cases h4 with h4 | ⟨_, rfl⟩
          · have := lt_of_some h4
            omega
          · exact hap k hk' (.inr (.inr (.inr ⟨i, z, u, p1, p2, hk⟩)))
      · have := lt_of_some p1
        omega
    · rcases snoc_cases h2 with h2 | ⟨_, rfl⟩
      · have := lt_of_some h2
        omega
      · rcases snoc_cases h3 with h3 | ⟨e3, _⟩
        · rcases snoc_cases h4 with h4 | ⟨e4, _⟩
          · exact hap k hk (.inr (.inr (.inr ⟨j, z', u', h3, h4, hk'⟩)))
          · have := lt_of_some h3
            omega
        · exact absurd (e1.trans e3.symm) hij
  · rcases hk with hk | hk | hk | ⟨i, z, u, h1, h2, hk⟩
    · exact .inl (.inl hk)
    · rcases hv with e | e
      · exact .inl (.inr (.inl (by rw [← e]; exact hk)))
      · have h1 := (ho.lt k hk).2
        rw [show ({ y with L := y.L ++ [x], sv := v7 } : MG).sv = v7 from rfl, e] at hk
        cases hk
        exact .inr (.inr ⟨Nat.le_refl _, by simpa using h1⟩)
    · exact .inl (.inr (.inr (.inl hk)))
    · rcases snoc_cases h1 with h1 | ⟨e1, rfl⟩
      · rcases snoc_cases h2 with h2 | ⟨e2, _⟩
        · exact .inl (.inr (.inr (.inr ⟨i, z, u, h1, h2, hk⟩)))
        · have := lt_of_some h1
          omega
      · rcases snoc_cases h2 with h2 | ⟨_, rfl⟩
        · have := lt_of_some h2
          omega
        · exact .inr (.inl hk)
end Go.Proofs.YtakaadcpaeiccabGreat

namespace Go.Proofs.YtakaadcpaeiccabGreat
open Go.RowKit Go.Maps

/-! A station that is made and begins. -/
theorem ndg_some : Nonempty NdG := ⟨by repeat' (first | exact Value.slice none 0 0 | exact (0 : Nat) | exact (0 : Int) | exact false | exact (⟨#[]⟩ : ByteArray) | exact [] | exact none | constructor | intro)⟩
/-- A station that has just been made. -/
def stnBox (a : Int) : Obj := .cells #[.int .u32 a, .slice none 0 0, .pointer none, .bool false, .bool false, .bool false, .bool false, .bool false, .bool false, .bool false, .int .i64 0] 102
/-- A station of a mesh that begins. -/
def stN (a : Int) : Stn := ⟨a, flatR (St.new a [] 0).nws, some (St.new a [] 0), List.replicate 6 false, false, 0⟩
theorem st_new (wr : World) (a : Int) (hU : U32 a) (h0 : a ≠ 0) : Calls Tryz.prog 37 #[.pointer (some ⟨wr.heap.size, 0, none⟩), .int .u64 0] (wr.alloc (stnBox a)) fun e W3 => ∃ frm cam drp, e = .returned (outV (St.new a [] 0).jrn (St.new a [] 0).rep frm cam drp) ∧ Hid (Calls Tryz.prog 62 #[.pointer (some ⟨wr.heap.size, 0, none⟩), outV (St.new a [] 0).jrn (St.new a [] 0).rep frm cam drp] W3 fun e W4 => e = .returned (.bool true) ∧ ∃ x2 : SG, x2.B = wr.heap.size ∧ StM x2 (stN a) W4 ∧ Fx (fun k => k = wr.heap.size) (wr.alloc (stnBox a)) W4 ∧ ∀ k, StIn x2 (stN a) k → wr.heap.size ≤ k) := by
  obtain ⟨g0⟩ := ndg_some
  have hx : StM ⟨wr.heap.size, .slice none 0 0, 0, g0, []⟩ ⟨a, [], none, List.replicate 6 false, false, 0⟩ (wr.alloc (stnBox a)) :=
    ⟨heap_alloc_new _ _, rfl, ⟨rfl, .inl ⟨rfl, rfl⟩⟩, fun z hz => (by cases hz)⟩
  have hs : SOk 1 0 0 ⟨a, [], none, List.replicate 6 false, false, 0⟩ := ⟨hU, h0, fun x h => (by cases h), Nat.zero_le _, Int.le_refl _, fun z hz => (by cases hz), fun z hz => (by cases hz)⟩
  have hp := new_pre hs (Int.le_refl _) ⟨Int.le_refl _, by decide⟩
  have hsz : (wr.alloc (stnBox a)).heap.size = wr.heap.size + 1 := by simp
  have hin : ∀ k, StIn ⟨wr.heap.size, .slice none 0 0, 0, g0, []⟩ ⟨a, [], none, List.replicate 6 false, false, 0⟩ k → k = wr.heap.size := by
    intro k hk
    rcases hk with hk | hk | ⟨z, hz, _⟩
    · exact hk
    · cases hk
    · cases hz
  refine (St_boot hx rfl 0 ⟨hU, h0, fun x h => (by cases h), Nat.zero_le _, ⟨Int.le_refl _, by decide⟩⟩).mono ?_
  rintro e W3 ⟨frm, cam, drp, rfl, ⟨x1, hB1, hm1, hf1, hu1⟩, _⟩
  refine ⟨frm, cam, drp, rfl, hide ?_⟩
  dsimp only at hB1 hm1 hu1
  have hnw := hp.nwl
  have hcn := hp.nd.inv.bd
  have HW := St_write hm1 (St.new a [] 0).ot frm cam drp hcn (by show (St.new a [] 0).nws.length ≤ _; dsimp only at hnw; omega) (Nat.zero_le _) (Int.le_refl _)
  rw [hB1] at HW
  have hne : (St.new a [] 0).ot.nws ≠ [] ∨ (St.new a [] 0).ot.rep = true := by
    refine .inl fun e => ?_
    have h1 := hp.no
    have h2 := hp.yes
    have h3 := hp.pos
    have e' : (St.new a [] 0).nws = [] := e
    dsimp only at h1 h2 h3
    rw [e'] at h1 h2
    cases hr : (St.new a [] 0).rep with
    | false =>
      have h4 := h1 hr
      simp only [List.length_nil] at h4
      omega
    | true =>
      have h4 := h2 hr
      simp only [List.length_nil] at h4
      omega
  have hwe := Stn.write_whole (s := ⟨a, [], some (St.new a [] 0), List.replicate 6 false, false, 0⟩) hne rfl
  have hs2 : (Stn.write ⟨a, [], some (St.new a [] 0), List.replicate 6 false, false, 0⟩ (St.new a [] 0).ot).1 = stN a := by
    rw [hwe]
    unfold stN
    dsimp only
    split <;> rfl
  have hs3 : (Stn.write ⟨a, [], some (St.new a [] 0), List.replicate 6 false, false, 0⟩ (St.new a [] 0).ot).2 = true := by rw [hwe]
  rw [hs2, hs3] at HW
  refine HW.mono ?_
  rintro e W4 ⟨rfl, x2, hB2, hm2, hf2, hu2⟩
  have hz1 := hf1.size
  refine ⟨rfl, x2, hB2.trans hB1, hm2, (hf1.mono hin).trans hf2 fun i hi hk => ?_, fun k hk => ?_⟩
  · rcases hu1 i hk with h | h
    · exact hin i h
    · omega
  · rcases hu2 k hk with h | h
    · rcases hu1 k h with h | h
      · exact Nat.le_of_eq (hin k h).symm
      · omega
    · omega
end Go.Proofs.YtakaadcpaeiccabGreat

namespace Go.Proofs.YtakaadcpaeiccabGreat
open Go.RowKit Go.Maps

/-! A mesh is made. -/
theorem info_ptr : (Tryz.prog.info? 94).map (fun i => (i.zero, i.size, i.bytes)) = some (some (.pointer none), 1, 8) := by kernel_rfl
/-- The first k stations stand. -/
def NwI (M : Nat) (w : World) (L : List Int) (k : Nat) (wr : World) : Prop := ∃ y : MG, y.G = M ∧ MM y (Msh.new (L.take k)) wr ∧ Fx (fun _ => False) w wr ∧ ∀ q, MIn y (Msh.new (L.take k)) q → w.heap.size ≤ q
theorem new_take {L : List Int} {k : Nat} (hk : k < L.length) : Msh.new (L.take (k + 1)) = { Msh.new (L.take k) with S := (Msh.new (L.take k)).S ++ [stN (L.getD k 0)] } := by
  unfold Msh.new
  rw [List.take_add_one, List.map_append]
  congr 1
  rw [List.getD_eq_getElem?_getD, List.getElem?_eq_getElem hk]
  rfl
theorem new_len (L : List Int) : (Msh.new L).S.length = L.length := by
  unfold Msh.new
  rw [List.length_map]
theorem nw_step {M : Nat} {w wr : World} {L : List Int} {k : Nat} (hk : k < L.length) {y : MG} (hG : y.G = M) (hm : MM y (Msh.new (L.take k)) wr) (hf : Fx (fun _ => False) w wr) (hge : ∀ q, MIn y (Msh.new (L.take k)) q → w.heap.size ≤ q) (W4 : World) (x2 : SG) (hB : x2.B = wr.heap.size) (hx : StM x2 (stN (L.getD k 0)) W4) (h4 : Fx (fun q => q = wr.heap.size) (wr.alloc (stnBox (L.getD k 0))) W4) (hxg : ∀ q, StIn x2 (stN (L.getD k 0)) q → wr.heap.size ≤ q) :
    MM y (Msh.new (L.take k)) W4 ∧ ∀ (v7 : Value) (w7 : World), w7.ownsRow 0 94 1 v7 ((Msh.new (L.take k)).S.length + 1) (PtC y.L ++ [.pointer (some ⟨wr.heap.size, 0, none⟩)]) → (W4.alloc (.cells #[.pointer (some ⟨wr.heap.size, 0, none⟩)] 94)).grownBy w7 y.sv.ownBlock → (v7.ownBlock = y.sv.ownBlock ∨ v7.ownBlock = some (W4.alloc (.cells #[.pointer (some ⟨wr.heap.size, 0, none⟩)] 94)).heap.size) → (w7.cell? ⟨M, 1, none⟩ = some y.sv ∧ w7.frozen? ⟨M, 1, none⟩ = false) ∧ Hid (NwI M w L (k + 1) (w7.setCell ⟨M, 1, none⟩ v7)) := by
  subst hG
  have hsz : (wr.alloc (stnBox (L.getD k 0))).heap.size = wr.heap.size + 1 := by simp
  have hz4 := h4.size
  have hm2 := hm.later ((Below.refl wr.heap.size wr).alloc (Nat.le_refl _) (stnBox (L.getD k 0)))
  have hm4 : MM y (Msh.new (L.take k)) W4 := hm2.kept fun q hq => h4.block q (hm2.lt hq) fun e => by
    have := hm.lt hq
    omega
  refine ⟨hm4, fun v7 w7 ho hg hv => ?_⟩
  have hb5 : Below W4.heap.size W4 (W4.alloc (.cells #[.pointer (some ⟨wr.heap.size, 0, none⟩)] 94)) := (Below.refl _ _).alloc (Nat.le_refl _) _
  have hm5 := hm4.later hb5
  rw [← hB] at ho
  obtain ⟨c1, hm7, hin⟩ := hm5.add (hx.later hb5) (fun q hq hq' => by
    have h1 := hxg q hq
    have h2 := hm.lt hq'
    omega) ho hg hv
  refine ⟨c1, hide ⟨{ y with L := y.L ++ [x2], sv := v7 }, rfl, ?_, ?_, fun q hq => ?_⟩⟩
  · rw [new_take hk]
    exact hm7
  · have f1 : Fx (fun _ => False) w (wr.alloc (stnBox (L.getD k 0))) := hf.trans (S' := fun _ => False) (Fx.below ((Below.refl wr.heap.size wr).alloc (Nat.le_refl _) _)) fun _ _ h => h
    have hzf := hf.size
    have f2 : Fx (fun _ => False) w W4 := f1.trans h4 fun i hi e => by omega
    have f3 : Fx (fun _ => False) w (W4.alloc (.cells #[.pointer (some ⟨wr.heap.size, 0, none⟩)] 94)) := f2.trans (S' := fun _ => False) (Fx.below hb5) fun _ _ h => h
    have f4 : Fx (fun _ => False) w w7 := grown_Fx f3 hg fun i hi e => by
      have := hge i (.inr (.inl e))
      omega
    exact grown_Fx f4 (grown_cellOf (grown_self w7 (some y.G)) 1 v7) fun i hi e => by
      cases e
      have := hge y.G (.inl rfl)
      omega
  · rw [new_take hk] at hq
    have hzf := hf.size
    have hb5s := hb5.size
    rcases hin q hq with h | h | ⟨h, _⟩
    · exact hge q h
    · have := hxg q h
      omega
    · omega

set_option maxRecDepth 100000 in
set_option maxHeartbeats 8000000 in
theorem M_New (g n c : Nat) (L : List Int) (w : World) (hL : L.length = n) (hn : 0 < n ∧ n ≤ 6) (hcap : n ≤ c) (hU : ∀ k, k < n → U32 (L.getD k 0)) (hgl : g < w.heap.size) (hc : ∀ k, k < n → w.cell? ⟨g, k, none⟩ = some (.int .u32 (L.getD k 0))) (h0 : ∀ k, k < n → L.getD k 0 ≠ 0) (hd : ∀ j k, j < k → k < n → L.getD j 0 ≠ L.getD k 0) :
    Calls Tryz.prog 27 #[.slice (some ⟨g, 0, none⟩) n c] w fun e w' => ∃ y : MG, e = .returned (.tuple #[.pointer (some ⟨y.G, 0, none⟩), .int .i64 0]) ∧ MM y (Msh.new L) w' ∧ Fx (fun _ => False) w w' ∧ ∀ q, MIn y (Msh.new L) q → w.heap.size ≤ q := by
  have HFt := hide (fit_yes g n c L w hn hcap hc h0 hd)
  have hst : Hid (NwI w.heap.size w L 0 (w.alloc (.cells #[.int .u64 0, .slice none 0 0, .slice none 0 0] 97))) := by
    refine hide ⟨⟨w.heap.size, .slice none 0 0, .slice none 0 0, []⟩, rfl, ⟨heap_alloc_new _ _, ⟨rfl, .inl ⟨rfl, rfl⟩⟩, ⟨rfl, .inl ⟨rfl, rfl⟩⟩, rfl, fun i x s h => (by cases h), fun i j x s x' s' _ h => (by cases h)⟩, Fx.below ((Below.refl _ _).alloc (Nat.le_refl _) _), fun q hq => ?_⟩
    rcases hq with h | h | h | ⟨i, x, s, h, _⟩
    · exact Nat.le_of_eq h.symm
    · cases h
    · cases h
    · cases h
  replace hc := hide hc
  replace h0 := hide h0
  replace hU := hide hU
  obtain ⟨i0, hi, hz0, hz1, hz2⟩ := info_parts info_ptr
  go_enter Tryz.func27, Tryz.ntmps27
  go_upto_region 4 with (go_at_call 61; refine HFt.out.mono ?_; rintro e w2 ⟨rfl, hw⟩; have hw2 := hw.symm; subst hw2)
  generalize World.alloc _ _ = W1 at hst ⊢
  generalize w.heap.size = M at hst ⊢
  go_wp2_with fail
  go_loopw [15] (fun i wr => ∃ (j : Nat), j ≤ n ∧ i = .int .i64 j ∧ Hid (NwI M w L j wr)) (fun i _ => n - (intOf i).toNat)
  case atStart => exact ⟨0, Nat.zero_le _, rfl, hst⟩
  case round =>
    obtain ⟨j, hj, rfl, hr⟩ := hrel
    by_cases hlt : j < n
    · have hlL : j < L.length := by omega
      have hix : (j : Int) < (n : Int) := by omega
      obtain ⟨y, hG, hm, hf, hge⟩ := hr.out
      have k0 := (World.cell?_of_block (a := ⟨g, j, none⟩) (hf.block g hgl (fun h => h))).trans (hc.out j hlt)
      have HX := st_new wr _ (hU.out j hlt) (h0.out j hlt)
      have HS := nw_step hlL hG hm hf hge
      have hlen : (Msh.new (L.take j)).S.length = j := by
        rw [new_len, List.length_take]
        omega
      have q0 : wr.cell? ⟨M, 0, none⟩ = some (.int .u64 0) := by
        rw [← hG]
        exact hm.cell.1
      obtain ⟨a, ha⟩ : ∃ a, L.getD j 0 = a := ⟨_, rfl⟩
      rw [ha] at k0 HX HS
      have q2 := (((Below.refl wr.heap.size wr).alloc (Nat.le_refl _) (stnBox a)).cell (World.block_lt_of_cell? _ _ q0)).trans q0
      obtain ⟨W2, hW2⟩ : ∃ W2, wr.alloc (stnBox a) = W2 := ⟨_, rfl⟩
      rw [hW2] at HX HS q2
      unfold stnBox at hW2
      obtain ⟨D, hD⟩ : ∃ D, wr.heap.size = D := ⟨_, rfl⟩
      obtain ⟨mk, hmk⟩ : ∃ mk, Msh.new (L.take j) = mk := ⟨_, rfl⟩
      rw [hmk] at HS hlen
      rw [hlen] at HS
      rw [hD] at HX HS
      replace HX := hide HX
      have HS2 : Hid (∀ (W4 : World) (x2 : SG), x2.B = D → StM x2 (stN a) W4 → Fx (fun q => q = D) W2 W4 → (∀ q, StIn x2 (stN a) q → D ≤ q) → ∃ ao cc, y.sv = .slice ao j cc ∧ W4.cell? ⟨M, 1, none⟩ = some (.slice ao j cc) ∧ (W4.alloc (.cells #[.pointer (some ⟨D, 0, none⟩)] 94)).ownsRow 0 94 1 (.slice ao j cc) j (PtC y.L) ∧ ∀ (v7 : Value) (w7 : World), w7.ownsRow 0 94 1 v7 (j + 1) (PtC y.L ++ [.pointer (some ⟨D, 0, none⟩)]) → (W4.alloc (.cells #[.pointer (some ⟨D, 0, none⟩)] 94)).grownBy w7 (Value.slice ao j cc).ownBlock → (v7.ownBlock = (Value.slice ao j cc).ownBlock ∨ v7.ownBlock = some (W4.alloc (.cells #[.pointer (some ⟨D, 0, none⟩)] 94)).heap.size) → (w7.cell? ⟨M, 1, none⟩ = some (.slice ao j cc) ∧ w7.frozen? ⟨M, 1, none⟩ = false) ∧ Hid (NwI M w L (j + 1) (w7.setCell ⟨M, 1, none⟩ v7))) := by
        refine hide fun W4 x2 p1 p2 p3 p4 => ?_
        obtain ⟨hm4, hnx⟩ := HS W4 x2 p1 p2 p3 p4
        obtain ⟨ao, cc, hsv, _⟩ := row_form hm4.sts
        rw [hlen] at hsv
        have hs5 := (hm4.later ((Below.refl W4.heap.size W4).alloc (Nat.le_refl _) (.cells #[.pointer (some ⟨D, 0, none⟩)] 94))).sts
        have c1 := hm4.cell.2.1
        rw [hsv, hlen] at hs5
        rw [hG, hsv] at c1
        rw [hsv] at hnx
        exact ⟨ao, cc, hsv, c1, hs5, hnx⟩
      have hsrc : Hid (∀ W4 : World, Src Tryz.prog 1 95 (.slice (some ⟨W4.heap.size, 0, none⟩) 1 1) 1 [.pointer (some ⟨D, 0, none⟩)] (W4.alloc (.cells #[.pointer (some ⟨D, 0, none⟩)] 94))) := hide fun W4 => Src.ofRow (base := 0) (e' := 94) (e := 94) Tryz.underlying95 ⟨rfl, .inr ⟨W4.heap.size, 1, _, rfl, Nat.zero_le _, heap_alloc_new _ _, Nat.le_refl _, by decide, rfl, rfl⟩⟩ (fun u hu => by
        rw [List.mem_singleton] at hu
        subst hu
        rfl)
      have hmx : Hid (j + 1 ≤ maxLen ∧ (j + 1) * 8 ≤ 140737488355328) := by unfold maxLen; exact hide (by omega)
      clear HS hm hf hge hlen hmk ha q0 hG hr
      go_upto_region 8 with (fail)

      clear hW2 hD k0
      go_wp2_with (first
        | (go_at_call 37; refine HX.out.mono ?_; rintro e W3 ⟨frm, cam, drp, rfl, HW⟩)
        | (go_at_call 62; refine HW.out.mono ?_; rintro e W4 ⟨rfl, x2, hB2, hm2, hf2, hge2⟩; obtain ⟨ao, cc, hsv, c1, hs5, hnx⟩ := HS2.out W4 x2 hB2 hm2 hf2 hge2; have hsr := hsrc.out W4; replace hnx := hide hnx; clear hB2 hm2 hf2 hge2 HW hsv)
        | (at_builtin; refine wpList_append_any rfl _ _ _ _ rfl 0 94 i0 (.pointer none) 1 8 Tryz.underlying95 hi hz0 hz1 hz2 rfl (.slice ao j cc) j (PtC y.L) rfl hs5 _ 1 [.pointer (some ⟨D, 0, none⟩)] rfl hsr hmx.out.1 hmx.out.2 (Nat.zero_le _) ?_; intro v7 w7 ho hg hv; obtain ⟨⟨g1, g2⟩, hnw⟩ := hnx.out v7 w7 ho hg hv; obtain ⟨ao7, cc7, rfl, _⟩ := row_form ho; clear ho hg hv hnx hs5 hsr))
      go_roundw
      case rel => exact ⟨j + 1, by omega, by go_num, hnw⟩
      case measure => simp [intOf]; omega
    · obtain rfl : j = n := by omega
      obtain ⟨y, hG, hm, hf, hge⟩ := hr.out
      rw [List.take_of_length_le (Nat.le_of_eq hL)] at hm hge
      have hfin : Hid (∃ y : MG, y.G = M ∧ MM y (Msh.new L) wr ∧ Fx (fun _ => False) w wr ∧ ∀ q, MIn y (Msh.new L) q → w.heap.size ≤ q) := ⟨y, hG, hm, hf, hge⟩
      clear hm hf hge hG hr hc h0 hU
      go_wp2
      go_returns
      obtain ⟨y, hG, hm, hf, hge⟩ := hfin.out
      exact ⟨y, by rw [hG]; rfl, hm, hf, hge⟩
end Go.Proofs.YtakaadcpaeiccabGreat

namespace Go.Proofs.YtakaadcpaeiccabGreat

/-! What holds of a mesh that has just been made. -/
theorem stN_ok {a : Int} (hU : U32 a) (h0 : a ≠ 0) : SOk 1 0 0 (stN a) := by
  have hs : SOk 1 0 0 ⟨a, [], none, List.replicate 6 false, false, 0⟩ := ⟨hU, h0, fun x h => (by cases h), Nat.zero_le _, Int.le_refl _, fun z hz => (by cases hz), fun z hz => (by cases hz)⟩
  have hp := new_pre hs (Int.le_refl _) ⟨Int.le_refl _, by decide⟩
  dsimp only at hp
  have hne : (St.new a [] 0).ot.nws ≠ [] ∨ (St.new a [] 0).ot.rep = true := by
    refine .inl fun e => ?_
    have h1 := hp.no
    have h2 := hp.yes
    have h3 := hp.pos
    have e' : (St.new a [] 0).nws = [] := e
    dsimp only at h1 h2 h3
    rw [e'] at h1 h2
    cases hr : (St.new a [] 0).rep with
    | false =>
      have h4 := h1 hr
      simp only [List.length_nil] at h4
      omega
    | true =>
      have h4 := h2 hr
      simp only [List.length_nil] at h4
      omega
  have hwe := Stn.write_whole (s := ⟨a, [], some (St.new a [] 0), List.replicate 6 false, false, 0⟩) hne rfl
  have hs2 : (Stn.write ⟨a, [], some (St.new a [] 0), List.replicate 6 false, false, 0⟩ (St.new a [] 0).ot).1 = stN a := by
    rw [hwe]
    unfold stN
    dsimp only
    split <;> rfl
  have := hp.write
  rw [hs2] at this
  exact this
theorem new_mok {L : List Int} (hn : L.length ≤ 6) (hU : ∀ a ∈ L, U32 a) (h0 : ∀ a ∈ L, a ≠ 0) : MOk 1 0 (Msh.new L) ∧ FlOk (Msh.new L) := by
  refine ⟨⟨by rw [new_len]; exact hn, Nat.zero_le _, ⟨Int.le_refl _, by show (0 : Int) ≤ 4611686018427387904; decide⟩, fun s hs => ?_⟩, fun f hf => by cases hf⟩
  obtain ⟨a, ha, rfl⟩ := List.mem_map.1 hs
  exact stN_ok (hU a ha) (h0 a ha)
/-- Every frame of a list may be heard. -/
def FrSz (L : List (Int × ByteArray)) : Prop := ∀ f ∈ L, f.2.size ≤ 65536
theorem FlOk.launch {m : Msh} (h : FlOk m) {i j : Nat} {b : ByteArray} (hi : i < m.S.length) (hj : j < m.S.length) (hb : b.size ≤ 65536) : FlOk (m.launch (i, j, b)) := by
  intro f hf
  have h1 : ∀ f ∈ m.air ++ [(i, j, b)], f.1 < m.S.length ∧ f.2.1 < m.S.length ∧ f.2.2.size ≤ 65536 := by
    intro f hf
    rcases List.mem_append.1 hf with hf | hf
    · exact h f hf
    · rw [List.mem_singleton] at hf
      subst hf
      exact ⟨hi, hj, hb⟩
  unfold Msh.launch at hf
  dsimp only at hf
  split at hf
  · exact h1 f (List.mem_of_mem_tail hf)
  · exact h1 f hf
theorem FlOk.put {m : Msh} (h : FlOk m) (i : Nat) (s : Stn) : FlOk (m.put i s) := by
  intro f hf
  rw [(put_S _ _ _).1, List.length_set]
  exact h f hf
theorem FlOk.foldl {i : Nat} {b : ByteArray} (hb : b.size ≤ 65536) : ∀ (l : List Nat) (m : Msh), FlOk m → i < m.S.length → (∀ j ∈ l, j < m.S.length) → FlOk (l.foldl (fun m j => m.launch (i, j, b)) m)
  | [], _, h, _, _ => h
  | a :: l, m, h, hi, hl => by
    rw [List.foldl_cons]
    exact FlOk.foldl hb l _ (h.launch hi (hl a (List.mem_cons_self ..)) hb) hi fun j hj => hl j (List.mem_cons_of_mem _ hj)
theorem FlOk.sendF {m : Msh} (h : FlOk m) {i : Nat} {f : Int × ByteArray} (hi : i < m.S.length) (hb : f.2.size ≤ 65536) : FlOk (m.sendF i f) := by
  refine FlOk.foldl hb _ _ h hi fun j hj => ?_
  unfold Msh.heard at hj
  exact List.mem_range.1 (List.mem_filter.1 hj).1
/-- What a node does goes out, if its frames are such. -/
theorem FlOk.didW {φ : Msh → Int × ByteArray → Msh × List Ev} {i : Nat} (hφ : ∀ m f, FlOk m → i < m.S.length → f.2.size ≤ 65536 → FlOk (φ m f).1 ∧ (φ m f).1.S.length = m.S.length) {m : Msh} (h : FlOk m) (hi : i < m.S.length) {o : Ot} (ho : FrSz o.frs) : FlOk (m.didW φ i o).1 := by
  have hf : ∀ (l : List (Int × ByteArray)) (z : Msh × List Ev), FlOk z.1 → i < z.1.S.length → FrSz l → FlOk (l.foldl (fun z f => ((φ z.1 f).1, z.2 ++ (φ z.1 f).2)) z).1 := by
    intro l
    induction l with
    | nil => intro z hz _ _; exact hz
    | cons a l ih =>
      intro z hz h1 h2
      rw [List.foldl_cons]
      obtain ⟨h3, h4⟩ := hφ z.1 a hz h1 (h2 a (List.mem_cons_self ..))
      exact ih _ h3 (by dsimp only; rw [h4]; exact h1) fun f hf => h2 f (List.mem_cons_of_mem _ hf)
  unfold Msh.didW
  split
  · exact h
  · split
    · exact hf _ _ (h.put i _) (by show i < (m.put i _).S.length; rw [(put_S _ _ _).1, List.length_set]; exact hi) ho
    · exact h.put i _
end Go.Proofs.YtakaadcpaeiccabGreat

namespace Go.Proofs.YtakaadcpaeiccabGreat

/-! How long a frame may be. -/
theorem enc_small {p : Pkt} {L : List (Int × Int)} (h : L = [] ∨ L.length = p.ln) : (strOfNums (encX p L)).size ≤ 65536 := by
  have hs : ∀ xs : List Int, (strOfNums xs).size = xs.length := fun xs => by simp [strOfNums, ByteArray.size]
  rw [hs]
  unfold encX
  split
  · rename_i hg
    obtain ⟨hl, _, _, _, _, hp, hk⟩ := good_parts hg
    have hln : p.ln ≤ 8 := by
      have h1 := (like_parts hl).1
      rcases hk with hk | hk | hk | hk
      · rw [h1]
        simp [Pkt.ownP, hk]
      · rw [h1]
        simp [Pkt.ownP, hk]
      · rw [h1]
        simp [Pkt.ownP, hk]
      · exact hk.2.2
    have hL : L.length ≤ 8 := by
      rcases h with h | h
      · rw [h]
        exact Nat.zero_le _
      · omega
    have h1 := numB_len p p.nums.length
    have h2 : (lostB L L.length).length ≤ 64 := by
      unfold lostB
      rw [List.take_length, flat8_len]
      omega
    simp only [encB, List.length_append, Pkt.head, List.length_cons, List.length_nil, strNums_length]
    omega
  · exact Nat.zero_le _
theorem frs_pr {c : Hrd} {s s' : St} (h : Pr c s s') (hs : ∀ f ∈ s.frs, f.2.size ≤ 65536) : ∀ f ∈ s'.frs, f.2.size ≤ 65536 := by
  cases h with
  | oth h => rw [h.frs]; exact hs
  | tab _ => exact hs
  | frm t p L _ hz =>
    intro f hf
    rcases List.mem_append.1 (show f ∈ s.frs ++ [(t, strOfNums (encX p L))] from hf) with hf | hf
    · exact hs f hf
    · rw [List.mem_singleton] at hf
      subst hf
      exact enc_small hz
  | grw => exact hs
  | mx _ _ _ _ => exact hs
  | wr => exact hs
theorem frs_prs {c : Hrd} {n : Nat} {s s' : St} (h : Prs c n s s') (hs : ∀ f ∈ s.frs, f.2.size ≤ 65536) : ∀ f ∈ s'.frs, f.2.size ≤ 65536 := by
  induction h with
  | nil => exact hs
  | snoc _ k ih => exact frs_pr k (ih hs)
/-- The frames of a call may be heard. -/
theorem frs_call {c : Hrd} {n : Nat} {s s' : St} {now : Int} (h : Prs c n (s.locked.begin now) s') : ∀ f ∈ s'.finish.freed.frs, f.2.size ≤ 65536 := by
  have h1 := frs_prs h (fun f hf => by cases hf)
  rw [show s'.finish.freed.frs = s'.frs from (finish_same s').frs]
  exact h1
end Go.Proofs.YtakaadcpaeiccabGreat

namespace Go.Proofs.YtakaadcpaeiccabGreat

/-! What is under way stays such that it may be heard. -/
theorem FlOk.out0 {m : Msh} (h : FlOk m) {i : Nat} (hi : i < m.S.length) {f : Int × ByteArray} (hb : f.2.size ≤ 65536) : FlOk (Msh.out0 i m f).1 ∧ (Msh.out0 i m f).1.S.length = m.S.length := by
  refine ⟨h.sendF hi hb, ?_⟩
  show (m.sendF i f).S.length = _
  rw [(sendF_S m i f).1]
theorem brk_fr (z : St) (now nxt : Int) : FrSz (z.brk now nxt).ot.frs := by
  obtain ⟨s', h1, h2⟩ := brk_prs z now nxt
  rw [h2]
  exact frs_call h1
theorem FlOk.out1 {m : Msh} (h : FlOk m) {i : Nat} (hi : i < m.S.length) {f : Int × ByteArray} (hb : f.2.size ≤ 65536) : FlOk (Msh.out1 i m f).1 ∧ (Msh.out1 i m f).1.S.length = m.S.length := by
  have hs := h.sendF hi hb
  have hl : (m.sendF i f).S.length = m.S.length := by rw [(sendF_S m i f).1]
  refine ⟨?_, out1_S i m f⟩
  unfold Msh.out1
  split
  · exact hs
  · split
    · exact hs
    · refine FlOk.didW (fun m f h hi hb => h.out0 hi hb) (hs.put i _) ?_ (brk_fr _ _ _)
      rw [(put_S _ _ _).1, List.length_set, hl]
      exact hi
theorem FlOk.did {m : Msh} (h : FlOk m) {i : Nat} (hi : i < m.S.length) {o : Ot} (ho : FrSz o.frs) : FlOk (m.did i o).1 := FlOk.didW (fun m f h hi hb => h.out1 hi hb) h hi ho
theorem FlOk.act {m : Msh} (h : FlOk m) {i : Nat} (hi : i < m.S.length) {z : St} (ho : FrSz z.frs) : FlOk (m.act i z).1 :=
  (h.put i _).did (by rw [(put_S _ _ _).1, List.length_set]; exact hi) ho
end Go.Proofs.YtakaadcpaeiccabGreat
