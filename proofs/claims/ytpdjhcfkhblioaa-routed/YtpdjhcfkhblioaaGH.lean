import Derived.Test.YtpdjhcfkhblioaaGG
import Derived.Deep.QuietTactic
import Derived.BigQuiet
namespace Go.Proofs.Ytpdjhcfkhblioaa
open Go.RowKit Go.Maps

/-- The plain table, laid in memory: a row of lines, each with a row of neighbours that nobody writes. -/
structure RM (me : Int) (T : Nat) (v : Value) (L : List (Rt × Value)) (W : World) : Prop where
  blk : W.heap[T]? = some (.cells #[.int .u32 me, v] 94)
  row : W.ownsRow 0 79 7 v L.length (RtC L)
  bef : ∀ p ∈ L, W.ownsRow 0 23 1 p.2 p.1.bef.length (p.1.bef.map encU)
  asc : Asc (L.map (·.1))
  ok : ∀ p ∈ L, p.1.Ok
  len : L.length ≤ 8
def RIn (T : Nat) (v : Value) (L : List (Rt × Value)) (k : Nat) : Prop := k = T ∨ v.ownBlock = some k ∨ ∃ p ∈ L, p.2.ownBlock = some k
theorem RM.cell {me : Int} {T : Nat} {v : Value} {L : List (Rt × Value)} {W : World} (h : RM me T v L W) : W.cell? ⟨T, 0, none⟩ = some (.int .u32 me) ∧ W.cell? ⟨T, 1, none⟩ = some v :=
  ⟨cell_of_row W T 0 _ _ _ h.blk, cell_of_row W T 1 _ _ _ h.blk⟩
theorem RM.free {me : Int} {T : Nat} {v : Value} {L : List (Rt × Value)} {W : World} (h : RM me T v L W) (i : Nat) : W.frozen? ⟨T, i, none⟩ = false := frozen_of_row W T i _ _ h.blk
theorem RM.lt {me : Int} {T : Nat} {v : Value} {L : List (Rt × Value)} {W : World} (h : RM me T v L W) {k : Nat} (hk : RIn T v L k) : k < W.heap.size := by
  rcases hk with rfl | hk | ⟨p, hp, hk⟩
  · exact (Array.getElem?_eq_some_iff.1 h.blk).1
  · exact (h.row.lt k hk).2
  · exact ((h.bef p hp).lt k hk).2
theorem RM.kept {me : Int} {T : Nat} {v : Value} {L : List (Rt × Value)} {W W' : World} (h : RM me T v L W) (he : ∀ k, RIn T v L k → W'.heap[k]? = W.heap[k]?) : RM me T v L W' :=
  ⟨(he T (.inl rfl)).trans h.blk, row_at h.row fun k hk => he k (.inr (.inl hk)), fun p hp => row_at (h.bef p hp) fun k hk => he k (.inr (.inr ⟨p, hp, hk⟩)), h.asc, h.ok, h.len⟩
theorem RM.later {me : Int} {T : Nat} {v : Value} {L : List (Rt × Value)} {W W' : World} (h : RM me T v L W) (hb : Below W.heap.size W W') : RM me T v L W' := h.kept fun k hk => hb.block k (h.lt hk)
/-- A line's cells. -/
theorem RM.at {me : Int} {T : Nat} {v : Value} {L : List (Rt × Value)} {W : World} (h : RM me T v L W) {k : Nat} {p : Rt × Value} (hp : L[k]? = some p) :
    ∃ G cap, v = .slice (some ⟨G, 0, none⟩) L.length cap ∧ (∀ i u, (rtC p)[i]? = some u → W.cell? ⟨G, k * 7 + i, none⟩ = some u) ∧ ∀ i, W.frozen? ⟨G, i, none⟩ = false := by
  have hk := (List.getElem?_eq_some_iff.1 hp).1
  obtain ⟨G, cap, rfl, _⟩ := row_shape' h.row (by omega)
  refine ⟨G, cap, rfl, fun i u hu => ?_, fun i => h.row.frozenAt i⟩
  have hi : i < 7 := (List.getElem?_eq_some_iff.1 hu).1
  rw [h.row.cellAt (k * 7 + i) (by omega), RtC_at hp hi, hu]
theorem RM.slice {me : Int} {T : Nat} {v : Value} {L : List (Rt × Value)} {W : World} (h : RM me T v L W) : ∃ ao c, v = .slice ao L.length c := by
  obtain ⟨ao, c, rfl, _⟩ := row_form h.row
  exact ⟨ao, c, rfl⟩
theorem map_at {L : List (Rt × Value)} {k : Nat} {p : Rt × Value} (h : L[k]? = some p) : (L.map (·.1))[k]? = some p.1 := by rw [List.getElem?_map, h]; rfl

set_option maxRecDepth 100000 in
set_option maxHeartbeats 4000000 in
theorem line_any {me : Int} {T : Nat} {v : Value} {L : List (Rt × Value)} {w : World} (h : RM me T v L w) (d : Int) :
    Calls Try.prog 79 #[.pointer (some ⟨T, 0, none⟩), .int .u32 d] w fun e w' => e = .returned (.tuple #[.int .i64 (pos (L.map (·.1)) d), .bool (lineOf (L.map (·.1)) d).isSome]) ∧ ∃ q, w' = w.drewN q := by
  obtain ⟨t0, t1⟩ := h.cell
  obtain ⟨vo, vc, rfl⟩ := h.slice
  have hlen := h.len
  have hH := (show Hid _ from h)
  have hpe := (show Hid _ from @pos_eq (L.map (·.1)) d)
  have hlo := (show Hid _ from lineOf_pos h.asc d)
  clear h
  go_enter Try.func79, Try.ntmps79
  go_wp2_with fail
  go_loopw [6] (fun i wr => ∃ k : Nat, k ≤ L.length ∧ i = .int .i64 k ∧ Hid (∀ j, j < k → ∃ x, (L.map (·.1))[j]? = some x ∧ x.dest < d) ∧ wr = w) (fun i _ => L.length - (intOf i).toNat)
  case atStart => exact ⟨0, Nat.zero_le _, rfl, fun j hj => by omega, rfl⟩
  case round =>
    obtain ⟨k, hk, rfl, hbl, rfl⟩ := hrel
    by_cases hlt : k < L.length
    · have hki : (k : Int) < (L.length : Int) := by omega
      obtain ⟨p, hp⟩ : ∃ p, L[k]? = some p := ⟨_, List.getElem?_eq_getElem hlt⟩
      obtain ⟨G, cap, hv, hc, _⟩ := hH.out.at hp
      cases hv
      have d0 := hc 0 _ rfl
      have hp1 := (show Hid _ from map_at hp)
      clear hc hp
      rw [Nat.add_zero] at d0
      by_cases hxd : p.1.dest < d
      · have hdd : decide (p.1.dest < d) = true := decide_eq_true hxd
        have hbl2 : Hid (∀ j, j < k + 1 → ∃ x, (L.map (·.1))[j]? = some x ∧ x.dest < d) := fun j hj => by
          by_cases e : j = k
          · subst e
            exact ⟨_, hp1.out, hxd⟩
          · exact hbl.out j (by omega)
        clear hxd
        go_wp2
        go_roundw
        case rel => exact ⟨k + 1, by omega, by go_num, hbl2, trivial⟩
        case measure => simp [intOf]; omega
      · have hdd : decide (p.1.dest < d) = false := decide_eq_false hxd
        have hpos : Hid (pos (L.map (·.1)) d = k) := hpe.out (by simp; omega) hbl.out (fun x hx => by rw [hp1.out] at hx; cases hx; omega)
        have hln : Hid ((lineOf (L.map (·.1)) d).isSome = (p.1.dest == d)) := by
          show _ = _
          rw [hlo.out, hpos.out, hp1.out, Option.bind_some]
          by_cases e : p.1.dest = d <;> simp [e]
        clear hxd hlo hpe hbl hp1
        go_wp2
        go_quiet (fail)
        go_wp2
        go_ret2
        refine ⟨?_, _, rfl⟩
        rw [hpos.out, hln.out]
        simp
    · have hkn : L.length = k := by omega
      have hpos : Hid (pos (L.map (·.1)) d = k) := hpe.out (by simp; omega) hbl.out (fun x hx => by
        rw [List.getElem?_eq_none (by simp; omega)] at hx
        cases hx)
      have hln : Hid ((lineOf (L.map (·.1)) d).isSome = false) := by
        show _ = _
        rw [hlo.out, hpos.out, List.getElem?_eq_none (by simp; omega)]
        rfl
      clear hlo hpe hbl
      clear hkn
      go_wp2
      go_quiet (fail)
      go_wp2
      go_ret2
      refine ⟨?_, _, rfl⟩
      rw [hpos.out, hln.out]
      simp
end Go.Proofs.Ytpdjhcfkhblioaa

namespace Go.Proofs.Ytpdjhcfkhblioaa
open Go.RowKit Go.Maps

theorem RtC_cons (p : Rt × Value) (L : List (Rt × Value)) : RtC (p :: L) = rtC p ++ RtC L := rfl
theorem RtC_set : ∀ {L : List (Rt × Value)} {j i : Nat} {p p' : Rt × Value} {u : Value}, L[j]? = some p → i < 7 → rtC p' = (rtC p).set i u → (RtC L).set (j * 7 + i) u = RtC (L.set j p')
  | [], j, i, p, p', u, hp, _, _ => by simp at hp
  | a :: L, 0, i, p, p', u, hp, hi, hc => by
    simp at hp
    subst hp
    rw [RtC_cons, List.set_cons_zero, RtC_cons, hc, Nat.zero_mul, Nat.zero_add, List.set_append_left _ _ (by simpa [rtC] using hi)]
  | a :: L, j + 1, i, p, p', u, hp, hi, hc => by
    have h7 : (rtC a).length = 7 := rfl
    rw [RtC_cons, List.set_cons_succ, RtC_cons, List.set_append_right _ _ (by rw [h7]; omega), h7, show (j + 1) * 7 + i - 7 = j * 7 + i by omega, RtC_set (by simpa using hp) hi hc]
theorem map_set {L : List (Rt × Value)} {j : Nat} {p : Rt × Value} : (L.set j p).map (·.1) = (L.map (·.1)).set j p.1 := by rw [List.map_set]
theorem RM.rowne {me : Int} {T : Nat} {v : Value} {L : List (Rt × Value)} {W : World} (h : RM me T v L W) : v.ownBlock ≠ some T := row_not h.row h.blk (fun c e => by cases e)
theorem RM.befne {me : Int} {T : Nat} {v : Value} {L : List (Rt × Value)} {W : World} (h : RM me T v L W) {u : Value} {xs : List Value} {n b : Nat} (hr : W.ownsRow b 23 1 u n xs) {G : Nat} (hG : v.ownBlock = some G) : u.ownBlock ≠ some G := by
  rcases rows_apart hr h.row (by decide) with e | e
  · rw [e]; simp
  · rw [← hG]; exact e
/-- One line's cells have turned. -/
theorem RM.turn {me : Int} {T : Nat} {v : Value} {L : List (Rt × Value)} {W W' : World} (h : RM me T v L W) {j : Nat} {p p' : Rt × Value} (hp : L[j]? = some p) (hd : p'.1.dest = p.1.dest) (hok : p'.1.Ok)
    (hrow : W'.ownsRow 0 79 7 v L.length (RtC (L.set j p'))) (hb : W'.ownsRow 0 23 1 p'.2 p'.1.bef.length (p'.1.bef.map encU)) (hk : ∀ k, k < W.heap.size → v.ownBlock ≠ some k → W'.heap[k]? = W.heap[k]?) : RM me T v (L.set j p') W' := by
  have hTl := (Array.getElem?_eq_some_iff.1 h.blk).1
  refine ⟨(hk T hTl h.rowne).trans h.blk, by rw [List.length_set]; exact hrow, ?_, ?_, ?_, by rw [List.length_set]; exact h.len⟩
  · intro q hq
    rcases List.mem_or_eq_of_mem_set hq with hq | rfl
    · have hr := h.bef q hq
      exact row_at hr fun k hk' => hk k (hr.lt k hk').2 (fun e => h.befne hr e hk')
    · exact hb
  · have h1 := modL_asc h.asc p.1.dest (fun y => { p'.1 with dest := y.dest }) (fun _ => rfl)
    rw [modL_set h.asc (map_at hp) rfl] at h1
    rw [map_set]
    have : ({ p'.1 with dest := p.1.dest } : Rt) = p'.1 := by rw [← hd]
    rw [this] at h1
    exact h1
  · intro q hq
    rcases List.mem_or_eq_of_mem_set hq with hq | rfl
    · exact h.ok q hq
    · exact hok
theorem RM.store1 {me : Int} {T : Nat} {L : List (Rt × Value)} {W : World} {G n cap : Nat} (h : RM me T (.slice (some ⟨G, 0, none⟩) n cap) L W) {j i : Nat} {p p' : Rt × Value} {u : Value} (hp : L[j]? = some p) (hi : i < 7) (hc : rtC p' = (rtC p).set i u) (hd : p'.1.dest = p.1.dest) (hok : p'.1.Ok)
    (hb : W.ownsRow 0 23 1 p'.2 p'.1.bef.length (p'.1.bef.map encU)) :
    RM me T (.slice (some ⟨G, 0, none⟩) n cap) (L.set j p') (W.setCell ⟨G, j * 7 + i, none⟩ u) ∧ W.grownBy (W.setCell ⟨G, j * 7 + i, none⟩ u) (some G) := by
  obtain ⟨ao, c, hv, _⟩ := row_form h.row
  cases hv
  have hs := h.row.stored (j * 7 + i) u
  refine ⟨h.turn hp hd hok ?_ ?_ ?_, hs.2⟩
  · rw [← RtC_set hp hi hc]
    exact hs.1
  · exact row_at hb fun k hk => hs.2.block k (hb.lt k hk).2 (fun e => h.befne hb rfl (by rw [hk, e]))
  · exact fun k hk hne => hs.2.block k hk (fun e => hne e.symm)
theorem RM.line {me : Int} {T : Nat} {v : Value} {L : List (Rt × Value)} {W : World} (h : RM me T v L W) {d : Int} {x : Rt} (hl : lineOf (L.map (·.1)) d = some x) : ∃ u, L[pos (L.map (·.1)) d]? = some (x, u) ∧ x.dest = d := by
  obtain ⟨h1, h2⟩ := lineOf_at h.asc hl
  rw [List.getElem?_map] at h1
  cases e : L[pos (L.map (·.1)) d]? with
  | none => rw [e] at h1; cases h1
  | some p =>
    rw [e] at h1
    cases h1
    exact ⟨p.2, rfl, h2⟩
/-- A plain table whose blocks lie in S. -/
def RTab (me : Int) (T : Nat) (S : Nat → Prop) (A : List Rt) (W : World) : Prop := ∃ v L, L.map (·.1) = A ∧ RM me T v L W ∧ ∀ k, RIn T v L k → S k
theorem RTab.later {me : Int} {T : Nat} {S : Nat → Prop} {A : List Rt} {W W' : World} (h : RTab me T S A W) (hb : Below W.heap.size W W') : RTab me T S A W' := by
  obtain ⟨v, L, h1, h2, h3⟩ := h
  exact ⟨v, L, h1, h2.later hb, h3⟩
theorem RTab.mono {me : Int} {T : Nat} {S S' : Nat → Prop} {A : List Rt} {W : World} (h : RTab me T S A W) (hs : ∀ k, S k → S' k) : RTab me T S' A W := by
  obtain ⟨v, L, h1, h2, h3⟩ := h
  exact ⟨v, L, h1, h2, fun k hk => hs k (h3 k hk)⟩
theorem RTab.kept {me : Int} {T : Nat} {S S' : Nat → Prop} {A : List Rt} {W W' : World} (h : RTab me T S A W) (hf : Fx S' W W') (hd : ∀ k, k < W.heap.size → S k → ¬ S' k) : RTab me T S A W' := by
  obtain ⟨v, L, h1, h2, h3⟩ := h
  exact ⟨v, L, h1, h2.kept (fun k hk => hf.block k (h2.lt hk) (hd k (h2.lt hk) (h3 k hk))), h3⟩
/-- The table, one line turned at its place. -/
theorem RTab.turned {me : Int} {T : Nat} {v : Value} {L : List (Rt × Value)} {S : Nat → Prop} {W' : World} {j : Nat} {p p' : Rt × Value} (h' : RM me T v (L.set j p') W') (hasc : Asc (L.map (·.1))) (hp : L[j]? = some p) (hS : ∀ k, RIn T v L k → S k) (hv : ∀ k, p'.2.ownBlock = some k → S k) (F : Rt → Rt) (hF : F p.1 = p'.1) : RTab me T S (modL (L.map (·.1)) p.1.dest F) W' := by
  refine ⟨v, L.set j p', ?_, h', fun k hk => ?_⟩
  · rw [map_set, modL_set hasc (map_at hp) rfl, hF]
  · rcases hk with rfl | hk | ⟨q, hq, hk⟩
    · exact hS _ (.inl rfl)
    · exact hS _ (.inr (.inl hk))
    · rcases List.mem_or_eq_of_mem_set hq with hq | rfl
      · exact hS _ (.inr (.inr ⟨q, hq, hk⟩))
      · exact hv k hk
end Go.Proofs.Ytpdjhcfkhblioaa

namespace Go.Proofs.Ytpdjhcfkhblioaa
open Go.RowKit Go.Maps

theorem nil_row (W : World) : W.ownsRow 0 23 1 (.slice none 0 0) 0 [] := ⟨rfl, .inl ⟨rfl, rfl⟩⟩

set_option maxRecDepth 100000 in
set_option maxHeartbeats 4000000 in
/-- TO END a line of the plain table. -/
theorem rend_any {me : Int} {T : Nat} {v : Value} {L : List (Rt × Value)} {w : World} (h : RM me T v L w) {j : Nat} {x : Rt} {u : Value} (hp : L[j]? = some (x, u)) (s : Int) (hs : U32 s) :
    Calls Try.prog 88 #[.pointer (some ⟨T, 0, none⟩), .int .i64 j, .int .u32 s] w fun e w' => e = .returned (.tuple #[]) ∧ RM me T v (L.set j (endR x s, .slice none 0 0)) w' ∧ w.grownBy w' v.ownBlock := by
  have hok := h.ok _ (List.mem_of_getElem? hp)
  have hj := (List.getElem?_eq_some_iff.1 hp).1
  have hlen := h.len
  obtain ⟨G, cap, rfl, hc, hf⟩ := h.at hp
  obtain ⟨t0, t1⟩ := h.cell
  have c1 := hc 1 _ rfl
  have c4 := hc 4 _ rfl
  have c5 := hc 5 _ rfl
  have c6 := hc 6 _ rfl
  have hGT : ¬ G = T := fun e => h.rowne (by rw [e]; rfl)
  have hTG : ¬ T = G := fun e => hGT e.symm
  have hji : (j : Int) < (L.length : Int) := by omega
  have hfin : Hid (∀ y : Int, y = max (gr x.seq) s → RM me T (.slice (some ⟨G, 0, none⟩) L.length cap) (L.set j (endR x s, .slice none 0 0)) ((((w.setCell ⟨G, j * 7 + 1, none⟩ (.int .u32 y)).setCell ⟨G, j * 7 + 4, none⟩ (.bool false)).setCell ⟨G, j * 7 + 5, none⟩ (.int .u64 0)).setCell ⟨G, j * 7 + 6, none⟩ (.slice none 0 0)) ∧ w.grownBy ((((w.setCell ⟨G, j * 7 + 1, none⟩ (.int .u32 y)).setCell ⟨G, j * 7 + 4, none⟩ (.bool false)).setCell ⟨G, j * 7 + 5, none⟩ (.int .u64 0)).setCell ⟨G, j * 7 + 6, none⟩ (.slice none 0 0)) (some G)) := by
    rintro y rfl
    have hmx := u32_max (gr_u32 hok.seq) hs
    have b0 := h.bef _ (List.mem_of_getElem? hp)
    have a1 := h.store1 (i := 1) (p' := ({ x with seq := max (gr x.seq) s }, u)) (u := .int .u32 (max (gr x.seq) s)) hp (by omega) rfl rfl ⟨hok.dest, hmx, hok.hops, hok.next, hok.exp, hok.befs, hok.bef, hok.asc⟩ b0
    have p1 : (L.set j ({ x with seq := max (gr x.seq) s }, u))[j]? = some ({ x with seq := max (gr x.seq) s }, u) := by rw [List.getElem?_set_self hj]
    have b1 := a1.1.bef _ (List.mem_of_getElem? p1)
    have a2 := a1.1.store1 (i := 4) (p' := ({ x with seq := max (gr x.seq) s, valid := false }, u)) (u := .bool false) p1 (by omega) rfl rfl ⟨hok.dest, hmx, hok.hops, hok.next, hok.exp, hok.befs, hok.bef, hok.asc⟩ b1
    rw [List.set_set] at a2
    have p2 : (L.set j ({ x with seq := max (gr x.seq) s, valid := false }, u))[j]? = some ({ x with seq := max (gr x.seq) s, valid := false }, u) := by rw [List.getElem?_set_self hj]
    have b2 := a2.1.bef _ (List.mem_of_getElem? p2)
    have a3 := a2.1.store1 (i := 5) (p' := ({ x with seq := max (gr x.seq) s, valid := false, exp := 0 }, u)) (u := .int .u64 0) p2 (by omega) rfl rfl ⟨hok.dest, hmx, hok.hops, hok.next, by simp [U64], hok.befs, hok.bef, hok.asc⟩ b2
    rw [List.set_set] at a3
    have p3 : (L.set j ({ x with seq := max (gr x.seq) s, valid := false, exp := 0 }, u))[j]? = some ({ x with seq := max (gr x.seq) s, valid := false, exp := 0 }, u) := by rw [List.getElem?_set_self hj]
    have a4 := a3.1.store1 (i := 6) (p' := (endR x s, .slice none 0 0)) (u := .slice none 0 0) p3 (by omega) rfl rfl (endR_ok hok hs) (nil_row _)
    rw [List.set_set] at a4
    exact ⟨a4.1, grown_cellOf (grown_cellOf (grown_cellOf a1.2 _ _) _ _) _ _⟩
  have HG := (show Hid _ from rgrown_any x.seq hok.seq w)
  have fG := fun i => hf (j * 7 + i)
  clear h hc hok hp fG
  go_enter Try.func88, Try.ntmps88
  go_wp2_with fail
  refine Calls.mono HG.out ?_
  rintro e w1 ⟨rfl, rfl⟩
  clear HG
  go_wp2
  all_goals
    go_returns
    exact ⟨rfl, hfin.out _ (by omega)⟩
end Go.Proofs.Ytpdjhcfkhblioaa

namespace Go.Proofs.Ytpdjhcfkhblioaa
open Go.RowKit Go.Maps

theorem RM.draws {me : Int} {T : Nat} {v : Value} {L : List (Rt × Value)} {W : World} (h : RM me T v L W) (q : Nat) : RM me T v L (W.drewN q) := h.kept fun _ _ => rfl
theorem draws_below (W : World) (q : Nat) : Below W.heap.size W (W.drewN q) := below_drewN (Below.refl _ _) q
theorem RM.gt {me : Int} {T : Nat} {L : List (Rt × Value)} {W : World} {G n c : Nat} (h : RM me T (.slice (some ⟨G, 0, none⟩) n c) L W) : ¬ G = T := fun e => h.rowne (by rw [e]; rfl)
theorem RM.inG {T : Nat} {L : List (Rt × Value)} {G n c : Nat} : RIn T (.slice (some ⟨G, 0, none⟩) n c) L G := .inr (.inl rfl)
theorem RTab.same {me : Int} {T : Nat} {v : Value} {L : List (Rt × Value)} {S : Nat → Prop} {w w' : World} (h : RM me T v L w) (hS : ∀ k, RIn T v L k → S k) (hb : Below w.heap.size w w') {A : List Rt} (hA : A = L.map (·.1)) : RTab me T S A w' ∧ Fx S w w' :=
  ⟨⟨v, L, hA.symm, h.later hb, hS⟩, Fx.below hb⟩

set_option maxRecDepth 100000 in
set_option maxHeartbeats 4000000 in
theorem rUse_any (me : Int) (T : Nat) (S : Nat → Prop) (A : List Rt) (d ex : Int) (he : U64 ex) (w : World) (h : RTab me T S A w) :
    Calls Try.prog 40 #[.pointer (some ⟨T, 0, none⟩), .int .u32 d, .int .u64 ex] w fun e w' => e = .returned (.tuple #[]) ∧ RTab me T S (useL A d ex) w' ∧ Fx S w w' := by
  obtain ⟨v, L, rfl, hM, hS⟩ := h
  have HL := (show Hid _ from line_any hM d)
  cases hl : lineOf (L.map (·.1)) d with
  | none =>
    rw [hl] at HL
    have hsame := fun (w' : World) (hb : Below w.heap.size w w') => RTab.same hM hS hb (modL_none hl (useF ex))
    have hs := (show Hid _ from hsame)
    clear hsame hM hS hl
    go_enter Try.func40, Try.ntmps40
    go_wp2_with fail
    refine Calls.mono HL.out ?_
    rintro e w1 ⟨rfl, q, rfl⟩
    clear HL
    simp only [Option.isSome_none]
    go_wp2
    go_returns
    exact ⟨rfl, hs.out _ (draws_below w q)⟩
  | some x =>
    rw [hl] at HL
    obtain ⟨u, hp, hxd⟩ := hM.line hl
    have hok := hM.ok _ (List.mem_of_getElem? hp)
    have hj := (List.getElem?_eq_some_iff.1 hp).1
    have hlen := hM.len
    obtain ⟨G, cap, rfl, hc, hf⟩ := hM.at hp
    obtain ⟨t0, t1⟩ := hM.cell
    have c4 := hc 4 _ rfl
    have c5 := hc 5 _ rfl
    have hid : useF ex x = x → Hid (∀ w' : World, Below w.heap.size w w' → RTab me T S (useL (L.map (·.1)) d ex) w' ∧ Fx S w w') := fun hF w' hb => RTab.same hM hS hb (modL_id hM.asc fun y hy => by rw [hl] at hy; cases hy; exact hF)
    have hset : useF ex x = { x with exp := ex } → Hid (∀ q, RTab me T S (useL (L.map (·.1)) d ex) ((w.drewN q).setCell ⟨G, pos (L.map (·.1)) d * 7 + 5, none⟩ (.int .u64 ex)) ∧ Fx S w ((w.drewN q).setCell ⟨G, pos (L.map (·.1)) d * 7 + 5, none⟩ (.int .u64 ex))) := fun hF q => by
      have hMq := hM.draws q
      have b0 := hMq.bef _ (List.mem_of_getElem? hp)
      have a1 := hMq.store1 (i := 5) (p' := ({ x with exp := ex }, u)) (u := .int .u64 ex) hp (by omega) rfl rfl ⟨hok.dest, hok.seq, hok.hops, hok.next, he, hok.befs, hok.bef, hok.asc⟩ b0
      have ht := RTab.turned (S := S) a1.1 hM.asc hp hS (fun k hk => hS k (.inr (.inr ⟨_, List.mem_of_getElem? hp, hk⟩))) (useF ex) hF
      dsimp only at ht
      rw [hxd] at ht
      exact ⟨ht, (Fx.below (S := S) (draws_below w q)).trans (Fx.grown (S := S) a1.2 (fun k e => by cases e; exact hS _ RM.inG)) (fun _ _ h => h)⟩
    have hpj : (pos (L.map (·.1)) d : Int) < (L.length : Int) := by omega
    have fG := hf
    clear hM hS hc hf hl
    generalize pos (L.map (·.1)) d = j at hp hj c4 c5 hset hpj HL
    clear hp
    cases hxv : x.valid
    · have hs := hid (by unfold useF; rw [hxv]; rfl)
      rw [hxv] at c4
      clear hid hset
      go_enter Try.func40, Try.ntmps40
      go_wp2_with fail
      refine Calls.mono HL.out ?_
      rintro e w1 ⟨rfl, q, rfl⟩
      clear HL
      simp only [Option.isSome_some]
      go_wp2
      go_returns
      exact ⟨rfl, hs.out _ (draws_below w q)⟩
    · rw [hxv] at c4
      by_cases hgt : x.exp < ex
      · have hs := hset (by unfold useF; rw [if_pos hxv, show max x.exp ex = ex by omega])
        have hd1 : decide (x.exp < ex) = true := decide_eq_true hgt
        clear hid hset hgt
        go_enter Try.func40, Try.ntmps40
        go_wp2_with fail
        refine Calls.mono HL.out ?_
        rintro e w1 ⟨rfl, q, rfl⟩
        clear HL
        simp only [Option.isSome_some]
        go_wp2
        go_returns
        exact ⟨rfl, hs.out q⟩
      · have hs := hid (by unfold useF; rw [if_pos hxv, show max x.exp ex = x.exp by omega])
        have hd1 : decide (x.exp < ex) = false := decide_eq_false hgt
        clear hid hset hgt
        go_enter Try.func40, Try.ntmps40
        go_wp2_with fail
        refine Calls.mono HL.out ?_
        rintro e w1 ⟨rfl, q, rfl⟩
        clear HL
        simp only [Option.isSome_some]
        go_wp2
        go_returns
        exact ⟨rfl, hs.out _ (draws_below w q)⟩
end Go.Proofs.Ytpdjhcfkhblioaa

namespace Go.Proofs.Ytpdjhcfkhblioaa
open Go.RowKit Go.Maps

set_option maxRecDepth 100000 in
set_option maxHeartbeats 4000000 in
theorem rLose_any (me : Int) (T : Nat) (S : Nat → Prop) (A : List Rt) (frm d s : Int) (hs : U32 s) (w : World) (h : RTab me T S A w) :
    Calls Try.prog 44 #[.pointer (some ⟨T, 0, none⟩), .int .u32 frm, .agg #[.int .u32 d, .int .u32 s]] w fun e w' => e = .returned (.bool (loseB A frm d)) ∧ RTab me T S (loseL A frm d s) w' ∧ Fx S w w' := by
  obtain ⟨v, L, rfl, hM0, hS⟩ := h
  have hb1 : Below w.heap.size w (w.alloc (.cells #[.int .u32 d, .int .u32 s] 87)) := (Below.refl _ _).alloc (Nat.le_refl _) _
  have hM := hM0.later hb1
  have k0 : (w.alloc (.cells #[.int .u32 d, .int .u32 s] 87)).cell? ⟨w.heap.size, 0, none⟩ = some (.int .u32 d) := cell_of_row _ _ 0 _ _ _ (heap_alloc_new w _)
  have k1 : (w.alloc (.cells #[.int .u32 d, .int .u32 s] 87)).cell? ⟨w.heap.size, 1, none⟩ = some (.int .u32 s) := cell_of_row _ _ 1 _ _ _ (heap_alloc_new w _)
  have HL := (show Hid _ from line_any hM d)
  cases hl : lineOf (L.map (·.1)) d with
  | none =>
    rw [hl] at HL
    have hsm : Hid (∀ q, loseB (L.map (·.1)) frm d = false ∧ RTab me T S (loseL (L.map (·.1)) frm d s) ((w.alloc (.cells #[.int .u32 d, .int .u32 s] 87)).drewN q) ∧ Fx S w ((w.alloc (.cells #[.int .u32 d, .int .u32 s] 87)).drewN q)) := fun q =>
      ⟨by unfold loseB; rw [hl]; rfl, RTab.same hM0 hS (below_drewN hb1 q) (modL_none hl _)⟩
    clear hM0 hM hS hl hb1
    go_enter Try.func44, Try.ntmps44
    go_wp2_with fail
    refine Calls.mono HL.out ?_
    rintro e w1 ⟨rfl, q, rfl⟩
    clear HL
    simp only [Option.isSome_none]
    go_wp2
    go_ret
    obtain ⟨h1, h2⟩ := hsm.out q
    exact ⟨by rw [h1]; simp, h2⟩
  | some x =>
    rw [hl] at HL
    obtain ⟨u, hp, hxd⟩ := hM.line hl
    have hj := (List.getElem?_eq_some_iff.1 hp).1
    have hlen := hM.len
    obtain ⟨G, cap, rfl, hc, hf⟩ := hM.at hp
    obtain ⟨t0, t1⟩ := hM.cell
    have c3 := hc 3 _ rfl
    have c4 := hc 4 _ rfl
    dsimp only at c3 c4
    have hB : loseB (L.map (·.1)) frm d = (x.valid && (x.next == frm)) := by unfold loseB; rw [hl]; rfl
    have hno : (x.valid && (x.next == frm)) = false → Hid (∀ q, RTab me T S (loseL (L.map (·.1)) frm d s) ((w.alloc (.cells #[.int .u32 d, .int .u32 s] 87)).drewN q) ∧ Fx S w ((w.alloc (.cells #[.int .u32 d, .int .u32 s] 87)).drewN q)) := fun hF q =>
      RTab.same hM0 hS (below_drewN hb1 q) (modL_id hM.asc fun y hy => by rw [hl] at hy; cases hy; exact if_neg (by rw [hF]; simp))
    have hend : Hid (∀ q, Calls Try.prog 88 #[.pointer (some ⟨T, 0, none⟩), .int .i64 (pos (L.map (·.1)) d), .int .u32 s] ((w.alloc (.cells #[.int .u32 d, .int .u32 s] 87)).drewN q) fun e w' => e = .returned (.tuple #[]) ∧ ((x.valid && (x.next == frm)) = true → RTab me T S (loseL (L.map (·.1)) frm d s) w' ∧ Fx S w w')) := fun q => by
      have hMq := hM.draws q
      refine (rend_any hMq hp s hs).mono ?_
      rintro e w' ⟨rfl, hR, hg⟩
      refine ⟨rfl, fun hF => ?_⟩
      have ht := RTab.turned (S := S) hR hM.asc hp hS (fun k hk => by cases hk) (loseF frm s) (by unfold loseF; exact if_pos hF)
      dsimp only at ht
      rw [hxd] at ht
      exact ⟨ht, (Fx.below (S := S) (below_drewN hb1 q)).trans (Fx.grown (S := S) hg (fun k e => by cases e; exact hS _ RM.inG)) (fun _ _ h => h)⟩
    have hpj : (pos (L.map (·.1)) d : Int) < (L.length : Int) := by omega
    have fG := hf
    have hB' := (show Hid _ from hB)
    clear hM hM0 hS hc hf hl hb1 hB
    generalize pos (L.map (·.1)) d = j at hp hj c3 c4 hend hpj HL
    clear hp
    cases hxv : x.valid
    · have hs2 := hno (by rw [hxv]; rfl)
      have hB2 : Hid (loseB (L.map (·.1)) frm d = false) := by show _ = _; rw [hB'.out, hxv]; rfl
      rw [hxv] at c4
      clear hno hend hB'
      go_enter Try.func44, Try.ntmps44
      go_wp2_with fail
      refine Calls.mono HL.out ?_
      rintro e w1 ⟨rfl, q, rfl⟩
      clear HL
      simp only [Option.isSome_some]
      go_wp2
      go_ret
      exact ⟨by rw [hB2.out]; simp, hs2.out q⟩
    · rw [hxv] at c4
      cases hxn : (x.next == frm)
      · have hs2 := hno (by rw [hxv, hxn]; rfl)
        have hB2 : Hid (loseB (L.map (·.1)) frm d = false) := by show _ = _; rw [hB'.out, hxv, hxn]; rfl
        clear hno hend hB'
        go_enter Try.func44, Try.ntmps44
        go_wp2_with fail
        refine Calls.mono HL.out ?_
        rintro e w1 ⟨rfl, q, rfl⟩
        clear HL
        simp only [Option.isSome_some]
        go_wp2
        go_ret
        exact ⟨by rw [hB2.out]; simp, hs2.out q⟩
      · have hT : Hid ((x.valid && (x.next == frm)) = true) := by show _ = _; rw [hxv, hxn]; rfl
        have hB2 : Hid (loseB (L.map (·.1)) frm d = true) := by show _ = _; rw [hB'.out, hT.out]
        clear hno hB'
        go_enter Try.func44, Try.ntmps44
        go_wp2_with fail
        refine Calls.mono HL.out ?_
        rintro e w1 ⟨rfl, q, rfl⟩
        clear HL
        simp only [Option.isSome_some]
        go_wp2_with fail
        refine Calls.mono (hend.out q) ?_
        rintro e w2 ⟨rfl, h2⟩
        have h3 := h2 hT.out
        clear hend h2 c3 c4 t0 t1 k0 k1
        go_wp2
        go_ret
        exact ⟨by rw [hB2.out]; simp, h3⟩
end Go.Proofs.Ytpdjhcfkhblioaa
