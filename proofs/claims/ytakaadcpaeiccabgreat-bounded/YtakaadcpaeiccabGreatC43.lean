import Derived.Test.YtakaadcpaeiccabGreatC42
import Derived.Test.YtakaadcpaeiccabGreatC37
import Derived.Test.YtakaadcpaeiccabGreatC16
import Derived.Test.YtakaadcpaeiccabGreatC15
import Derived.Deep.CutRange
import Derived.Test.YtakaadcpaeiccabGreatC34
import Derived.Test.YtakaadcpaeiccabGreatC06
namespace Go.Proofs.YtakaadcpaeiccabGreat

/-! A node that no one answers: what it asks, and how often. -/
def last5 (l : List Int) : List Int := l.drop (l.length - 5)
theorem last5_len (l : List Int) : (last5 l).length = min l.length 5 := by
  unfold last5
  rw [List.length_drop]
  omega
theorem last5_first {l : List Int} (_h : 5 ≤ l.length) : (last5 l)[0]? = l[l.length - 5]? := by
  unfold last5
  rw [List.getElem?_drop, Nat.add_zero]
theorem last5_add (l : List Int) (t : Int) : St.pcAdd (last5 l) t = last5 (l ++ [t]) := by
  unfold St.pcAdd
  by_cases h : 5 ≤ l.length
  · rw [if_pos (by rw [last5_len]; omega)]
    unfold last5
    rw [List.tail_drop, List.length_append, List.length_singleton, List.drop_append_of_le_length (by omega)]
    congr 2
    omega
  · rw [if_neg (by rw [last5_len]; omega)]
    unfold last5
    rw [List.length_append, List.length_singleton, show l.length - 5 = 0 by omega, show l.length + 1 - 5 = 0 by omega]
    rfl
/-- A frame that asks for a route, with this number. -/
def FrOk (z : Int × ByteArray) (q : Int) : Prop := ∃ ttl i d, 1 ≤ ttl ∧ ttl ≤ 8 ∧ U32 i ∧ U32 d ∧ z = (0, strOfNums (encX (St.reqP ttl true i d 0 1 q) []))
/-- Within a call: c requests have gone out. -/
structure RI (now last : Int) (ts : List Int) (c : Nat) (s : St) : Prop where
  me : s.me = 1
  A : s.A = []
  sil : s.sil = 0
  tim : s.now = now
  seq : s.seq = last + c
  lreq : U32 s.lreq
  len : s.frs.length = c
  fr : ∀ (i : Nat) z, s.frs[i]? = some z → FrOk z (last + i + 1)
  pc : s.pc = last5 (ts ++ List.replicate c now)
  pace : ∀ i, i < c → 5 ≤ ts.length + i → ∃ t, (ts ++ List.replicate c now)[ts.length + i - 5]? = some t ∧ t + 1000 ≤ now
/-- What of a node counts here. -/
structure RSame (s s' : St) : Prop where
  me : s'.me = s.me
  A : s'.A = s.A
  sil : s'.sil = s.sil
  now : s'.now = s.now
  seq : s'.seq = s.seq
  lreq : s'.lreq = s.lreq
  frs : s'.frs = s.frs
  pc : s'.pc = s.pc
theorem RI.same {now last : Int} {ts : List Int} {c : Nat} {s s' : St} (h : RI now last ts c s) (e : RSame s s') : RI now last ts c s' :=
  ⟨by rw [e.me]; exact h.me, by rw [e.A]; exact h.A, by rw [e.sil]; exact h.sil, by rw [e.now]; exact h.tim, by rw [e.seq]; exact h.seq, by rw [e.lreq]; exact h.lreq, by rw [e.frs]; exact h.len, by rw [e.frs]; exact h.fr, by rw [e.pc]; exact h.pc, h.pace⟩
theorem repl_add (ts : List Int) (c : Nat) (now : Int) : ts ++ List.replicate (c + 1) now = (ts ++ List.replicate c now) ++ [now] := by
  rw [List.replicate_succ', List.append_assoc]
theorem RI.request {now last : Int} {ts : List Int} {c : Nat} {s : St} (h : RI now last ts c s) (h0 : 0 ≤ last) (hb : last + c + 1 < 4294967296) (hf : St.full s.pc s.now = false) (d ttl : Int) (hd : U32 d) (ht : 1 ≤ ttl ∧ ttl ≤ 8) : RI now last ts (c + 1) (s.request d ttl) := by
  have hg : gr s.seq = last + (c + 1 : Nat) := by
    rw [h.seq]
    unfold gr
    omega
  have hnum : numL s.A d = 0 := by rw [h.A]; rfl
  have hln : (!(lineOf s.A d).isSome) = true := by rw [h.A]; rfl
  have hlr : U32 ((s.lreq + 1) % 4294967296) := by unfold U32; omega
  have hfr : (s.request d ttl).frs = s.frs ++ [(0, strOfNums (encX (St.reqP ttl true ((s.lreq + 1) % 4294967296) d 0 1 (last + (c + 1 : Nat))) []))] := by
    show s.frs ++ [(0, strOfNums (encX (St.reqP ttl (!(lineOf s.A d).isSome) ((s.lreq + 1) % 4294967296) d (numL s.A d) s.me (gr s.seq)) []))] = _
    rw [hnum, hln, h.me, hg]
  have hl : (ts ++ List.replicate c now).length = ts.length + c := by rw [List.length_append, List.length_replicate]
  refine ⟨h.me, h.A, h.sil, h.tim, hg, hlr, by rw [hfr, List.length_append, h.len]; rfl, fun i z hz => ?_, ?_, fun i hi h5 => ?_⟩
  · rw [hfr] at hz
    by_cases hi : i < s.frs.length
    · rw [List.getElem?_append_left hi] at hz
      exact h.fr i z hz
    · rw [List.getElem?_append_right (by omega)] at hz
      obtain ⟨hi0, e⟩ := List.getElem?_eq_some_iff.1 hz
      have hi1 : i = c := by
        have := h.len
        simp at hi0
        omega
      subst hi1
      rw [List.getElem_singleton] at e
      subst e
      refine ⟨ttl, _, d, ht.1, ht.2, hlr, hd, ?_⟩
      rw [show last + (i : Int) + 1 = last + ((i + 1 : Nat) : Int) by omega]
  · show St.pcAdd s.pc s.now = _
    rw [h.pc, h.tim, last5_add, repl_add]
  · rw [repl_add]
    by_cases hic : i < c
    · obtain ⟨t, h1, h2⟩ := h.pace i hic h5
      refine ⟨t, ?_, h2⟩
      rw [List.getElem?_append_left (by rw [hl]; omega)]
      exact h1
    · obtain rfl : i = c := by omega
      have hlen5 : s.pc.length = 5 := by
        rw [h.pc, last5_len, hl]
        omega
      have hfirst : s.pc[0]? = (ts ++ List.replicate i now)[ts.length + i - 5]? := by
        rw [h.pc, last5_first (by rw [hl]; omega), hl]
      obtain ⟨t, ht0⟩ : ∃ t, s.pc[0]? = some t := ⟨_, List.getElem?_eq_getElem (by omega)⟩
      refine ⟨t, ?_, ?_⟩
      · rw [List.getElem?_append_left (by rw [hl]; omega), ← hfirst]
        exact ht0
      · unfold St.full at hf
        rw [h.tim] at hf
        have hg0 : s.pc.getD 0 0 = t := by rw [List.getD_eq_getElem?_getD, ht0]; rfl
        rw [hg0] at hf
        simp [hlen5] at hf
        omega
/-- At most n requests. -/
def RB (now last : Int) (ts : List Int) (n : Nat) (s : St) : Prop := ∃ c, c ≤ n ∧ RI now last ts c s
theorem RB.more {now last : Int} {ts : List Int} {n : Nat} {s : St} (h : RB now last ts n s) : RB now last ts (n + 1) s := by
  obtain ⟨c, h1, h2⟩ := h
  exact ⟨c, by omega, h2⟩
theorem RB.ask {now last : Int} {ts : List Int} {n : Nat} {s : St} (h : RB now last ts n s) (h0 : 0 ≤ last) (hb : last + n + 1 < 4294967296) (q : Sr) (hd : U32 q.dest) (ht : 1 ≤ q.ttl ∧ q.ttl ≤ 8) : RB now last ts (n + 1) (s.ask q) := by
  obtain ⟨c, h1, h2⟩ := h
  rw [ask_eq]
  cases hh : s.holds with
  | some r => exact ⟨c, by omega, h2.same ⟨rfl, rfl, rfl, rfl, rfl, rfl, rfl, rfl⟩⟩
  | none =>
    have hf : St.full s.pc s.now = false := by
      cases hf : St.full s.pc s.now with
      | false => rfl
      | true =>
        unfold St.holds at hh
        rw [hf] at hh
        cases hh
    exact ⟨c + 1, by omega, (h2.request h0 (by omega) hf q.dest q.ttl hd ht).same ⟨rfl, rfl, rfl, rfl, rfl, rfl, rfl, rfl⟩⟩
theorem find_nil (d now : Int) : (findL [] d now).2 = false := rfl
theorem RB.step {now last : Int} {ts : List Int} {n : Nat} {s : St} (h : RB now last ts n s) (h0 : 0 ≤ last) (hb : last + n + 1 < 4294967296) (q : Sr) (hd : U32 q.dest) (ht : 1 ≤ q.ttl ∧ q.ttl ≤ 8) : RB now last ts (n + 1) (s.step q) := by
  have hA : s.A = [] := by
    obtain ⟨c, _, h2⟩ := h
    exact h2.A
  unfold St.step
  rw [hA, find_nil]
  simp only [Bool.false_eq_true, if_false]
  split
  · unfold St.widen
    split
    · exact h.ask h0 hb _ hd (by dsimp only; omega)
    · split
      · exact h.ask h0 hb _ hd (by dsimp only; omega)
      · split
        · exact h.ask h0 hb _ hd ht
        · obtain ⟨c, h1, h2⟩ := h
          exact ⟨c, by omega, h2.same ⟨rfl, rfl, rfl, rfl, rfl, rfl, rfl, rfl⟩⟩
  · exact h.ask h0 hb q hd ht
theorem RB.steps {now last : Int} {ts : List Int} (h0 : 0 ≤ last) : ∀ (D : List Sr) (n : Nat) (s : St), RB now last ts n s → last + n + D.length < 4294967296 → (∀ q ∈ D, U32 q.dest ∧ 1 ≤ q.ttl ∧ q.ttl ≤ 8) → RB now last ts (n + D.length) (D.foldl St.step s) := by
  intro D
  induction D with
  | nil => intro n s h _ _; exact h
  | cons q D ih =>
    intro n s h hb hD
    rw [List.length_cons] at hb ⊢
    rw [List.foldl_cons]
    have h1 := hD q List.mem_cons_self
    have := ih (n + 1) (s.step q) (h.step h0 (by omega) q h1.1 h1.2) (by omega) (fun z hz => hD z (List.mem_cons_of_mem _ hz))
    rw [show n + (D.length + 1) = n + 1 + D.length by omega]
    exact this
/-- Between two calls. -/
structure Rtd (last : Int) (ts : List Int) (s : St) : Prop where
  me : s.me = 1
  A : s.A = []
  sil : s.sil = 0
  seq : s.seq = last
  lreq : U32 s.lreq
  pc : s.pc = last5 ts
/-- What has gone out in one call. -/
structure Out (now last : Int) (ts : List Int) (F : List (Int × ByteArray)) : Prop where
  fr : ∀ (i : Nat) z, F[i]? = some z → FrOk z (last + i + 1)
  pace : ∀ i, i < F.length → 5 ≤ ts.length + i → ∃ t, (ts ++ List.replicate F.length now)[ts.length + i - 5]? = some t ∧ t + 1000 ≤ now
theorem Rtd.begin {last : Int} {ts : List Int} {s : St} (h : Rtd last ts s) (now : Int) : RI now last ts 0 (s.locked.begin now) := by
  have hA : expL s.A now = [] := by rw [h.A]; rfl
  refine ⟨h.me, hA, h.sil, rfl, by show s.seq = _; rw [h.seq]; simp, h.lreq, rfl, fun i z hz => (by cases hz), ?_, fun i hi => absurd hi (Nat.not_lt_zero _)⟩
  show s.pc = _
  rw [h.pc]
  simp
theorem RI.done {now last : Int} {ts : List Int} {c : Nat} {s : St} (h : RI now last ts c s) : Rtd (last + c) (ts ++ List.replicate c now) s.finish.freed ∧ s.finish.freed.frs.length = c ∧ Out now last ts s.finish.freed.frs ∧ s.finish.freed.now = now := by
  have e := finish_same s
  have hf : s.finish.freed.frs = s.frs := e.frs
  refine ⟨⟨e.me.trans h.me, e.A.trans h.A, e.sil.trans h.sil, e.seq.trans h.seq, ?_, e.pc.trans h.pc⟩, by rw [hf]; exact h.len, ?_, e.now.trans h.tim⟩
  · show U32 s.finish.lreq
    rw [e.lreq]
    exact h.lreq
  · rw [hf]
    exact ⟨h.fr, by rw [h.len]; exact h.pace⟩
theorem Rtd.tck {last : Int} {ts : List Int} {s : St} (h : Rtd last ts s) (h0 : 0 ≤ last) (hb : last + 5000 < 4294967296) (hQ : ∀ q ∈ s.Q, U32 q.dest ∧ 1 ≤ q.ttl ∧ q.ttl ≤ 8) (hl : s.Q.length ≤ 5000) (now : Int) :
    ∃ c : Nat, c ≤ 5000 ∧ Rtd (last + c) (ts ++ List.replicate c now) (s.tck now) ∧ (s.tck now).frs.length = c ∧ Out now last ts (s.tck now).frs ∧ (s.tck now).now = now := by
  have hD : (St.dueQ s.Q now).length ≤ 5000 := by
    unfold St.dueQ
    rw [(List.mergeSort_perm _ _).length_eq]
    exact Nat.le_trans (List.length_filter_le _ _) hl
  have hm : ∀ q ∈ St.dueQ s.Q now, U32 q.dest ∧ 1 ≤ q.ttl ∧ q.ttl ≤ 8 := fun q hq => hQ q (List.mem_filter.1 ((List.mergeSort_perm _ _).mem_iff.1 hq)).1
  obtain ⟨c, h1, h2⟩ := RB.steps (now := now) (ts := ts) h0 (St.dueQ s.Q now) 0 (s.locked.begin now) ⟨0, Nat.le_refl _, h.begin now⟩ (by omega) hm
  exact ⟨c, by omega, h2.done⟩
theorem Rtd.snd {last : Int} {ts : List Int} {s : St} (h : Rtd last ts s) (h0 : 0 ≤ last) (hb : last + 5000 < 4294967296) (now d : Int) (t : ByteArray) (hd : U32 d) :
    ∃ c : Nat, c ≤ 1 ∧ Rtd (last + c) (ts ++ List.replicate c now) (s.snd now d t) ∧ (s.snd now d t).frs.length = c ∧ Out now last ts (s.snd now d t).frs ∧ (s.snd now d t).now = now := by
  have hb0 := h.begin now
  have hf : (findL (s.locked.begin now).A d (s.locked.begin now).now).2 = false := by rw [hb0.A]; rfl
  have key : RB now last ts 1 ((s.locked.begin now).await d t) := by
    unfold St.await
    split
    · rename_i q _
      unfold St.hold
      split
      · exact ⟨0, by omega, hb0.same ⟨rfl, rfl, rfl, rfl, rfl, rfl, rfl, rfl⟩⟩
      · exact ⟨0, by omega, hb0.same ⟨rfl, rfl, rfl, rfl, rfl, rfl, rfl, rfl⟩⟩
    · exact RB.ask (n := 0) (s := { s.locked.begin now with Q := (s.locked.begin now).Q ++ [St.newQ d t] }) ⟨0, Nat.le_refl _, hb0.same ⟨rfl, rfl, rfl, rfl, rfl, rfl, rfl, rfl⟩⟩ h0 (by omega) (St.newQ d t) hd (by show (1 : Int) ≤ 1 ∧ (1 : Int) ≤ 8; omega)
  obtain ⟨c, h1, h2⟩ := key
  refine ⟨c, h1, ?_⟩
  have e : s.snd now d t = ((s.locked.begin now).await d t).finish.freed := by
    unfold St.snd St.sends
    dsimp only
    rw [hf]
    rfl
  rw [e]
  exact h2.done
theorem Out.append {now last : Int} {ts : List Int} {F G : List (Int × ByteArray)} (h : Out now last ts F) (g : Out now (last + F.length) (ts ++ List.replicate F.length now) G) : Out now last ts (F ++ G) := by
  refine ⟨fun i z hz => ?_, fun i hi h5 => ?_⟩
  · by_cases h1 : i < F.length
    · rw [List.getElem?_append_left h1] at hz
      exact h.fr i z hz
    · rw [List.getElem?_append_right (by omega)] at hz
      have := g.fr _ z hz
      rw [show last + (F.length : Int) + ((i - F.length : Nat) : Int) + 1 = last + i + 1 by omega] at this
      exact this
  · have he : ts ++ List.replicate (F ++ G).length now = (ts ++ List.replicate F.length now) ++ List.replicate G.length now := by
      rw [List.length_append, ← List.replicate_append_replicate, List.append_assoc]
    rw [he]
    have hl : (ts ++ List.replicate F.length now).length = ts.length + F.length := by rw [List.length_append, List.length_replicate]
    rw [List.length_append] at hi
    by_cases h1 : i < F.length
    · obtain ⟨t, k1, k2⟩ := h.pace i h1 h5
      refine ⟨t, ?_, k2⟩
      rw [List.getElem?_append_left (by rw [hl]; omega)]
      exact k1
    · obtain ⟨t, k1, k2⟩ := g.pace (i - F.length) (by omega) (by rw [hl]; omega)
      rw [hl, show ts.length + F.length + (i - F.length) - 5 = ts.length + i - 5 by omega] at k1
      exact ⟨t, k1, k2⟩
end Go.Proofs.YtakaadcpaeiccabGreat

namespace Go.Proofs.YtakaadcpaeiccabGreat
open Go.RowKit Go.Maps Go.MuLone

/-! A text that is refused. -/
set_option maxRecDepth 100000 in
set_option maxHeartbeats 8000000 in
theorem N_SendNo {N : Nat} {g : NdG} {s : St} {TL : List Hp.Tm} {w : World} (n : Nn N g s TL w) (hlk : s.lk = 0) (now d : Int) (t : ByteArray) (r : Int) (h : (16 < t.size ∧ r = 6) ∨ (t.size ≤ 16 ∧ (d = s.me ∨ d = 0) ∧ r = 2)) :
    Calls Tryz.prog 21 #[.pointer (some ⟨N, 0, none⟩), .int .u64 now, .int .u32 d, .string t] w fun e w' => e = .returned (.tuple #[.agg #[.string ⟨#[]⟩, .bool false, .slice none 0 0, .slice none 0 0, .slice none 0 0], .int .i64 r]) ∧ Nn N g s TL w' ∧ Fx (Ft N g s) w w' := by
  have hb0 : Below w.heap.size w (w.alloc outZ) := (Below.refl _ _).alloc (Nat.le_refl _) _
  have hC0 : (w.alloc outZ).heap[w.heap.size]? = some outZ := heap_alloc_new _ _
  have hCn : ¬ Ft N g s w.heap.size := fun h => by have := n.lt h; omega
  have hs0 : (w.alloc outZ).heap.size = w.heap.size + 1 := by simp
  have n0 := n.later hb0
  dsimp only [outZ] at hb0 hC0 hs0 n0
  go_enter_defers Tryz.func21, Tryz.ntmps21
  go_upto_region 1 with (fail)
  generalize World.alloc _ _ = W1 at hb0 hC0 hs0 n0 ⊢
  obtain ⟨c0, f0⟩ := n0.lkd
  rw [hlk] at c0
  go_wp2_with fail
  refine Calls.mono (lock_free muLib ⟨N, 0, none⟩ W1 c0 f0) ?_
  rintro e w2 ⟨rfl, rfl⟩
  obtain ⟨n2, hg2⟩ := n0.setLk 1
  have hf2 : Fx (Ft N g s) w (W1.setCell ⟨N, 0, none⟩ (.int .i32 1)) := grown_Fx (Fx.below hb0) hg2 (fun i _ e => by cases e; exact .inl (.inl rfl))
  have hC2 := (hg2.block w.heap.size (by omega) (fun e => hCn (by cases e; exact .inl (.inl rfl)))).trans hC0
  have hs2 : w.heap.size + 1 ≤ (W1.setCell ⟨N, 0, none⟩ (.int .i32 1)).heap.size := by
    have := hg2.size
    omega
  have c2 := n2.cr.nd.cell.2.1
  rw [n2.eq.self] at c2
  dsimp only at c2
  have hback : Hid (∀ {W : World}, Nn N { ({ g with x := { g.x with lk := 1 } } : NdG) with x := { ({ g with x := { g.x with lk := 1 } } : NdG).x with lk := 0 } } { ({ s with lk := 1 } : St) with lk := 0 } TL W → Nn N g s TL W) := by
    intro W m
    have e1 : ({ ({ s with lk := 1 } : St) with lk := 0 } : St) = s := by rw [← hlk]
    have hx : g.x.lk = 0 := n.eq.lk.trans hlk
    have e2 : ({ ({ g with x := { g.x with lk := 1 } } : NdG) with x := { ({ g with x := { g.x with lk := 1 } } : NdG).x with lk := 0 } } : NdG) = g := by
      obtain ⟨x, a, M, ff, gg, sz, h, u, Mt, hp, tv⟩ := g
      obtain ⟨lk, self, seq, sil, T, Ms, tn, own, Mo, cnt, lreq, ldat, Msr, Tm, pc⟩ := x
      dsimp only at hx
      subst hx
      rfl
    rw [e1, e2] at m
    exact m
  have hF1 : Hid (∀ k, Ft N ({ g with x := { g.x with lk := 1 } } : NdG) ({ s with lk := 1 } : St) k → Ft N g s k) := fun k h => h
  have hlk1 : Hid (({ s with lk := 1 } : St).lk = 1) := rfl
  clear n0 hC0 hs0 hb0 c0 f0 hg2
  generalize ({ g with x := { g.x with lk := 1 } } : NdG) = g1 at n2 hF1 hback
  generalize ({ s with lk := 1 } : St) = s1 at n2 hF1 hlk1 hback
  generalize World.setCell _ _ _ = W2 at n2 hf2 c2 hC2 hs2 ⊢
  have z0 : W2.cell? ⟨w.heap.size, 0, none⟩ = some (.string ⟨#[]⟩) := cell_of_row _ _ 0 _ _ _ hC2
  have z1 : W2.cell? ⟨w.heap.size, 1, none⟩ = some (.bool false) := cell_of_row _ _ 1 _ _ _ hC2
  have z2 : W2.cell? ⟨w.heap.size, 2, none⟩ = some (.slice none 0 0) := cell_of_row _ _ 2 _ _ _ hC2
  have z3 : W2.cell? ⟨w.heap.size, 3, none⟩ = some (.slice none 0 0) := cell_of_row _ _ 3 _ _ _ hC2
  have z4 : W2.cell? ⟨w.heap.size, 4, none⟩ = some (.slice none 0 0) := cell_of_row _ _ 4 _ _ _ hC2
  have y0 := frozen_of_row W2 w.heap.size 0 _ _ hC2
  have y1 := frozen_of_row W2 w.heap.size 1 _ _ hC2
  have y2 := frozen_of_row W2 w.heap.size 2 _ _ hC2
  have y3 := frozen_of_row W2 w.heap.size 3 _ _ hC2
  have y4 := frozen_of_row W2 w.heap.size 4 _ _ hC2
  rcases h with ⟨h16', rfl⟩ | ⟨h16', hd, rfl⟩
  · have h16 : (16 : Int) < (t.size : Int) := by omega
    have hgC := grown_cellOf (grown_cellOf (grown_cellOf (grown_cellOf (grown_cellOf (grown_self W2 (some w.heap.size)) 0 (.string ⟨#[]⟩)) 1 (.bool false)) 2 (.slice none 0 0)) 3 (.slice none 0 0)) 4 (.slice none 0 0)
    have hC7 : (((((W2.setCell ⟨w.heap.size, 0, none⟩ (.string ⟨#[]⟩)).setCell ⟨w.heap.size, 1, none⟩ (.bool false)).setCell ⟨w.heap.size, 2, none⟩ (.slice none 0 0)).setCell ⟨w.heap.size, 3, none⟩ (.slice none 0 0)).setCell ⟨w.heap.size, 4, none⟩ (.slice none 0 0)).heap[w.heap.size]? = some (.cells #[.string ⟨#[]⟩, .bool false, .slice none 0 0, .slice none 0 0, .slice none 0 0] 52) := by
      simp [World.setCell, Array.getElem?_modify, hC2]
    have m7 := n2.kept fun k hk => hgC.block k (n2.lt hk) (fun e => hCn (by cases e; exact hF1.out _ hk))
    have hf7 := grown_Fx hf2 hgC (fun i hi e => by cases e; omega)
    clear n2 hgC hf2 hC2
    go_wp2_with fail
    generalize World.setCell _ _ _ = W7 at hC7 m7 hf7 ⊢
    obtain ⟨c0, f0⟩ := m7.lkd
    rw [hlk1.out] at c0
    refine leaves_cons (f := 50) (args := #[.pointer (some ⟨N, 0, none⟩)]) (by simp) (by simp [go_sem]) ?_
    refine (unlock_deferred muLib ⟨N, 0, none⟩ .returning W7 c0 f0).mono ?_
    rintro e u' w'' ⟨rfl, rfl, rfl⟩
    obtain ⟨m8, hg8⟩ := m7.setLk 0
    have hNw : N ≠ w.heap.size := fun e => hCn (by rw [← e]; exact .inl (.inl rfl))
    have hC8 := (hg8.block w.heap.size (some_lt hC7) (fun e => by cases e; exact hNw rfl)).trans hC7
    have hf8 := grown_Fx hf7 hg8 (fun i hi e => by cases e; exact .inl (.inl rfl))
    have hb8 := hback.out m8
    clear c0 f0 hg8 m7 m8 hf7 hC7
    generalize World.setCell _ _ _ = W8 at hC8 hf8 hb8 ⊢
    have p0 : W8.cell? ⟨w.heap.size, 0, none⟩ = some (.string ⟨#[]⟩) := cell_of_row _ _ 0 _ _ _ hC8
    have p1 : W8.cell? ⟨w.heap.size, 1, none⟩ = some (.bool false) := cell_of_row _ _ 1 _ _ _ hC8
    have p2 : W8.cell? ⟨w.heap.size, 2, none⟩ = some (.slice none 0 0) := cell_of_row _ _ 2 _ _ _ hC8
    have p3 : W8.cell? ⟨w.heap.size, 3, none⟩ = some (.slice none 0 0) := cell_of_row _ _ 3 _ _ _ hC8
    have p4 : W8.cell? ⟨w.heap.size, 4, none⟩ = some (.slice none 0 0) := cell_of_row _ _ 4 _ _ _ hC8
    refine ⟨.tuple #[.agg #[.string ⟨#[]⟩, .bool false, .slice none 0 0, .slice none 0 0, .slice none 0 0], .int .i64 6], by simp [results, Tryz.results21, go_sem, p0, p1, p2, p3, p4], rfl, hb8, hf8⟩
  · have h16 : ¬ (16 : Int) < (t.size : Int) := by omega
    rcases hd with rfl | rfl
    · have hdm : (s.me == s.me) = true := beq_self_eq_true _
      have hgC := grown_cellOf (grown_cellOf (grown_cellOf (grown_cellOf (grown_cellOf (grown_self W2 (some w.heap.size)) 0 (.string ⟨#[]⟩)) 1 (.bool false)) 2 (.slice none 0 0)) 3 (.slice none 0 0)) 4 (.slice none 0 0)
      have hC7 : (((((W2.setCell ⟨w.heap.size, 0, none⟩ (.string ⟨#[]⟩)).setCell ⟨w.heap.size, 1, none⟩ (.bool false)).setCell ⟨w.heap.size, 2, none⟩ (.slice none 0 0)).setCell ⟨w.heap.size, 3, none⟩ (.slice none 0 0)).setCell ⟨w.heap.size, 4, none⟩ (.slice none 0 0)).heap[w.heap.size]? = some (.cells #[.string ⟨#[]⟩, .bool false, .slice none 0 0, .slice none 0 0, .slice none 0 0] 52) := by
        simp [World.setCell, Array.getElem?_modify, hC2]
      have m7 := n2.kept fun k hk => hgC.block k (n2.lt hk) (fun e => hCn (by cases e; exact hF1.out _ hk))
      have hf7 := grown_Fx hf2 hgC (fun i hi e => by cases e; omega)
      clear n2 hgC hf2 hC2
      go_wp2_with fail
      generalize World.setCell _ _ _ = W7 at hC7 m7 hf7 ⊢
      obtain ⟨c0, f0⟩ := m7.lkd
      rw [hlk1.out] at c0
      refine leaves_cons (f := 50) (args := #[.pointer (some ⟨N, 0, none⟩)]) (by simp) (by simp [go_sem]) ?_
      refine (unlock_deferred muLib ⟨N, 0, none⟩ .returning W7 c0 f0).mono ?_
      rintro e u' w'' ⟨rfl, rfl, rfl⟩
      obtain ⟨m8, hg8⟩ := m7.setLk 0
      have hNw : N ≠ w.heap.size := fun e => hCn (by rw [← e]; exact .inl (.inl rfl))
      have hC8 := (hg8.block w.heap.size (some_lt hC7) (fun e => by cases e; exact hNw rfl)).trans hC7
      have hf8 := grown_Fx hf7 hg8 (fun i hi e => by cases e; exact .inl (.inl rfl))
      have hb8 := hback.out m8
      clear c0 f0 hg8 m7 m8 hf7 hC7
      generalize World.setCell _ _ _ = W8 at hC8 hf8 hb8 ⊢
      have p0 : W8.cell? ⟨w.heap.size, 0, none⟩ = some (.string ⟨#[]⟩) := cell_of_row _ _ 0 _ _ _ hC8
      have p1 : W8.cell? ⟨w.heap.size, 1, none⟩ = some (.bool false) := cell_of_row _ _ 1 _ _ _ hC8
      have p2 : W8.cell? ⟨w.heap.size, 2, none⟩ = some (.slice none 0 0) := cell_of_row _ _ 2 _ _ _ hC8
      have p3 : W8.cell? ⟨w.heap.size, 3, none⟩ = some (.slice none 0 0) := cell_of_row _ _ 3 _ _ _ hC8
      have p4 : W8.cell? ⟨w.heap.size, 4, none⟩ = some (.slice none 0 0) := cell_of_row _ _ 4 _ _ _ hC8
      refine ⟨.tuple #[.agg #[.string ⟨#[]⟩, .bool false, .slice none 0 0, .slice none 0 0, .slice none 0 0], .int .i64 2], by simp [results, Tryz.results21, go_sem, p0, p1, p2, p3, p4], rfl, hb8, hf8⟩
    · have hd0 : ((0 : Int) == 0) = true := rfl
      by_cases hdm : (0 : Int) = s.me
      · have hdm' : ((0 : Int) == s.me) = true := by simpa using hdm
        clear hdm
        have hgC := grown_cellOf (grown_cellOf (grown_cellOf (grown_cellOf (grown_cellOf (grown_self W2 (some w.heap.size)) 0 (.string ⟨#[]⟩)) 1 (.bool false)) 2 (.slice none 0 0)) 3 (.slice none 0 0)) 4 (.slice none 0 0)
        have hC7 : (((((W2.setCell ⟨w.heap.size, 0, none⟩ (.string ⟨#[]⟩)).setCell ⟨w.heap.size, 1, none⟩ (.bool false)).setCell ⟨w.heap.size, 2, none⟩ (.slice none 0 0)).setCell ⟨w.heap.size, 3, none⟩ (.slice none 0 0)).setCell ⟨w.heap.size, 4, none⟩ (.slice none 0 0)).heap[w.heap.size]? = some (.cells #[.string ⟨#[]⟩, .bool false, .slice none 0 0, .slice none 0 0, .slice none 0 0] 52) := by
          simp [World.setCell, Array.getElem?_modify, hC2]
        have m7 := n2.kept fun k hk => hgC.block k (n2.lt hk) (fun e => hCn (by cases e; exact hF1.out _ hk))
        have hf7 := grown_Fx hf2 hgC (fun i hi e => by cases e; omega)
        clear n2 hgC hf2 hC2
        go_wp2_with fail
        generalize World.setCell _ _ _ = W7 at hC7 m7 hf7 ⊢
        obtain ⟨c0, f0⟩ := m7.lkd
        rw [hlk1.out] at c0
        refine leaves_cons (f := 50) (args := #[.pointer (some ⟨N, 0, none⟩)]) (by simp) (by simp [go_sem]) ?_
        refine (unlock_deferred muLib ⟨N, 0, none⟩ .returning W7 c0 f0).mono ?_
        rintro e u' w'' ⟨rfl, rfl, rfl⟩
        obtain ⟨m8, hg8⟩ := m7.setLk 0
        have hNw : N ≠ w.heap.size := fun e => hCn (by rw [← e]; exact .inl (.inl rfl))
        have hC8 := (hg8.block w.heap.size (some_lt hC7) (fun e => by cases e; exact hNw rfl)).trans hC7
        have hf8 := grown_Fx hf7 hg8 (fun i hi e => by cases e; exact .inl (.inl rfl))
        have hb8 := hback.out m8
        clear c0 f0 hg8 m7 m8 hf7 hC7
        generalize World.setCell _ _ _ = W8 at hC8 hf8 hb8 ⊢
        have p0 : W8.cell? ⟨w.heap.size, 0, none⟩ = some (.string ⟨#[]⟩) := cell_of_row _ _ 0 _ _ _ hC8
        have p1 : W8.cell? ⟨w.heap.size, 1, none⟩ = some (.bool false) := cell_of_row _ _ 1 _ _ _ hC8
        have p2 : W8.cell? ⟨w.heap.size, 2, none⟩ = some (.slice none 0 0) := cell_of_row _ _ 2 _ _ _ hC8
        have p3 : W8.cell? ⟨w.heap.size, 3, none⟩ = some (.slice none 0 0) := cell_of_row _ _ 3 _ _ _ hC8
        have p4 : W8.cell? ⟨w.heap.size, 4, none⟩ = some (.slice none 0 0) := cell_of_row _ _ 4 _ _ _ hC8
        refine ⟨.tuple #[.agg #[.string ⟨#[]⟩, .bool false, .slice none 0 0, .slice none 0 0, .slice none 0 0], .int .i64 2], by simp [results, Tryz.results21, go_sem, p0, p1, p2, p3, p4], rfl, hb8, hf8⟩
      · have hdm' : ((0 : Int) == s.me) = false := by simpa using hdm
        clear hdm
        have hgC := grown_cellOf (grown_cellOf (grown_cellOf (grown_cellOf (grown_cellOf (grown_self W2 (some w.heap.size)) 0 (.string ⟨#[]⟩)) 1 (.bool false)) 2 (.slice none 0 0)) 3 (.slice none 0 0)) 4 (.slice none 0 0)
        have hC7 : (((((W2.setCell ⟨w.heap.size, 0, none⟩ (.string ⟨#[]⟩)).setCell ⟨w.heap.size, 1, none⟩ (.bool false)).setCell ⟨w.heap.size, 2, none⟩ (.slice none 0 0)).setCell ⟨w.heap.size, 3, none⟩ (.slice none 0 0)).setCell ⟨w.heap.size, 4, none⟩ (.slice none 0 0)).heap[w.heap.size]? = some (.cells #[.string ⟨#[]⟩, .bool false, .slice none 0 0, .slice none 0 0, .slice none 0 0] 52) := by
          simp [World.setCell, Array.getElem?_modify, hC2]
        have m7 := n2.kept fun k hk => hgC.block k (n2.lt hk) (fun e => hCn (by cases e; exact hF1.out _ hk))
        have hf7 := grown_Fx hf2 hgC (fun i hi e => by cases e; omega)
        clear n2 hgC hf2 hC2
        go_wp2_with fail
        generalize World.setCell _ _ _ = W7 at hC7 m7 hf7 ⊢
        obtain ⟨c0, f0⟩ := m7.lkd
        rw [hlk1.out] at c0
        refine leaves_cons (f := 50) (args := #[.pointer (some ⟨N, 0, none⟩)]) (by simp) (by simp [go_sem]) ?_
        refine (unlock_deferred muLib ⟨N, 0, none⟩ .returning W7 c0 f0).mono ?_
        rintro e u' w'' ⟨rfl, rfl, rfl⟩
        obtain ⟨m8, hg8⟩ := m7.setLk 0
        have hNw : N ≠ w.heap.size := fun e => hCn (by rw [← e]; exact .inl (.inl rfl))
        have hC8 := (hg8.block w.heap.size (some_lt hC7) (fun e => by cases e; exact hNw rfl)).trans hC7
        have hf8 := grown_Fx hf7 hg8 (fun i hi e => by cases e; exact .inl (.inl rfl))
        have hb8 := hback.out m8
        clear c0 f0 hg8 m7 m8 hf7 hC7
        generalize World.setCell _ _ _ = W8 at hC8 hf8 hb8 ⊢
        have p0 : W8.cell? ⟨w.heap.size, 0, none⟩ = some (.string ⟨#[]⟩) := cell_of_row _ _ 0 _ _ _ hC8
        have p1 : W8.cell? ⟨w.heap.size, 1, none⟩ = some (.bool false) := cell_of_row _ _ 1 _ _ _ hC8
        have p2 : W8.cell? ⟨w.heap.size, 2, none⟩ = some (.slice none 0 0) := cell_of_row _ _ 2 _ _ _ hC8
        have p3 : W8.cell? ⟨w.heap.size, 3, none⟩ = some (.slice none 0 0) := cell_of_row _ _ 3 _ _ _ hC8
        have p4 : W8.cell? ⟨w.heap.size, 4, none⟩ = some (.slice none 0 0) := cell_of_row _ _ 4 _ _ _ hC8
        refine ⟨.tuple #[.agg #[.string ⟨#[]⟩, .bool false, .slice none 0 0, .slice none 0 0, .slice none 0 0], .int .i64 2], by simp [results, Tryz.results21, go_sem, p0, p1, p2, p3, p4], rfl, hb8, hf8⟩
end Go.Proofs.YtakaadcpaeiccabGreat

namespace Go.Proofs.YtakaadcpaeiccabGreat
open Go.RowKit Go.Maps

/-- The line that a record gives. -/
def nwR (x : Bool × Int × Int) : Rt := ⟨x.2.1, gr x.2.2, 0, 0, false, 0, []⟩
def nwP (me : Int) (x : Bool × Int × Int) : Bool := !x.1 && (x.2.1 != me)
def nwS (me : Int) (A : List Rt) (x : Bool × Int × Int) : List Rt := if nwP me x && decide (A.length < 8) then A ++ [nwR x] else A
/-- The table that records give. -/
def nwL (me : Int) (out : List (Bool × Int × Int)) : List Rt := out.foldl (nwS me) []
theorem nwL_take (me : Int) {out : List (Bool × Int × Int)} {k : Nat} {x : Bool × Int × Int} (h : out[k]? = some x) : nwL me (out.take (k + 1)) = nwS me (nwL me (out.take k)) x := by
  rw [take_snocR h]
  simp [nwL]
theorem nwL_len (me : Int) (out : List (Bool × Int × Int)) : ∀ k, (nwL me (out.take k)).length ≤ 8 := by
  intro k
  induction k with
  | zero => simp [nwL]
  | succ k ih =>
    cases hx : out[k]? with
    | none =>
      have hk := List.getElem?_eq_none_iff.1 hx
      rw [List.take_of_length_le (by omega)]
      rw [List.take_of_length_le (by omega)] at ih
      exact ih
    | some x =>
      rw [nwL_take me hx]
      unfold nwS
      split
      · rename_i h
        have h8 : (nwL me (out.take k)).length < 8 := by
          revert h
          cases nwP me x <;> simp
        simp
        omega
      · exact ih
theorem nwL_mem (me : Int) (out : List (Bool × Int × Int)) : ∀ k, ∀ z ∈ nwL me (out.take k), ∃ j x, j < k ∧ out[j]? = some x ∧ nwP me x = true ∧ z = nwR x := by
  intro k
  induction k with
  | zero => intro z hz; simp [nwL] at hz
  | succ k ih =>
    intro z hz
    cases hx : out[k]? with
    | none =>
      have hk := List.getElem?_eq_none_iff.1 hx
      rw [List.take_of_length_le (by omega)] at hz
      rw [List.take_of_length_le (by omega)] at ih
      obtain ⟨j, x, h1, h2⟩ := ih z hz
      exact ⟨j, x, by omega, h2⟩
    | some x =>
      rw [nwL_take me hx] at hz
      unfold nwS at hz
      split at hz
      · rename_i h
        rcases List.mem_append.1 hz with hz | hz
        · obtain ⟨j, y, h1, h2⟩ := ih z hz
          exact ⟨j, y, by omega, h2⟩
        · simp at hz
          refine ⟨k, x, by omega, hx, ?_, hz⟩
          revert h
          cases nwP me x <;> simp
      · obtain ⟨j, y, h1, h2⟩ := ih z hz
        exact ⟨j, y, by omega, h2⟩
/-- The addresses of others rise. -/
def Ris (out : List (Bool × Int × Int)) : Prop := out.Pairwise fun a b => a.1 = false → b.1 = false → a.2.1 < b.2.1
theorem Ris.get {out : List (Bool × Int × Int)} (h : Ris out) {j k : Nat} {x y : Bool × Int × Int} (hj : out[j]? = some x) (hk : out[k]? = some y) (hjk : j < k) (hx : x.1 = false) (hy : y.1 = false) : x.2.1 < y.2.1 := by
  obtain ⟨h1, rfl⟩ := List.getElem?_eq_some_iff.1 hj
  obtain ⟨h2, rfl⟩ := List.getElem?_eq_some_iff.1 hk
  exact List.pairwise_iff_getElem.1 h j k h1 h2 hjk hx hy
theorem nwP_oth {me : Int} {x : Bool × Int × Int} (h : nwP me x = true) : x.1 = false := by
  unfold nwP at h
  revert h
  cases x.1 <;> simp
theorem nwL_below (me : Int) {out : List (Bool × Int × Int)} (h : Ris out) {k : Nat} {x : Bool × Int × Int} (hx : out[k]? = some x) (hp : nwP me x = true) : ∀ z ∈ nwL me (out.take k), z.dest < x.2.1 := by
  intro z hz
  obtain ⟨j, y, hj, hy, hyp, rfl⟩ := nwL_mem me out k z hz
  exact h.get hy hx hj (nwP_oth hyp) (nwP_oth hp)
theorem asc_snoc {A : List Rt} (h : Asc A) {x : Rt} (hx : ∀ z ∈ A, z.dest < x.dest) : Asc (A ++ [x]) := by
  unfold Asc
  rw [List.pairwise_append]
  exact ⟨h, List.pairwise_singleton _ _, fun a ha b hb => by simp at hb; subst hb; exact hx a ha⟩
theorem ris_cmp {f : Int → Option Int} {c : Option Int} {out : List (Bool × Int × Int)} (h : IsCmp f c out) : Ris out := by
  obtain ⟨ss, hp, _, rfl⟩ := h
  have h2 : Ris (othP f ss) := by
    unfold Ris othP
    rw [List.pairwise_map]
    exact hp.imp (fun hab _ _ => hab)
  unfold Ris at *
  cases c with
  | none => exact h2
  | some s => exact List.pairwise_cons.2 ⟨fun b _ h => (by cases h), h2⟩
theorem mb_all : ∀ (L : List (Bool × Int × Int)) (f : Int → Option Int), MB f → RBd L → MB (L.foldl stepM f) := by
  intro L
  induction L with
  | nil => intro f hf _; exact hf
  | cons x L ih =>
    intro f hf hb
    have hx := rbd_u hb (List.mem_cons_self ..)
    exact ih _ (hf.step hx.1 hx.2) (fun y hy => hb y (List.mem_cons_of_mem _ hy))
theorem nwR_ok {L out : List (Bool × Int × Int)} (hb : RBd L) (h : IsCmp (mpL L) (owL L) out) {x : Bool × Int × Int} (hx : x ∈ out) (ho : x.1 = false) : U32 x.2.1 ∧ U32 x.2.2 := by
  obtain ⟨ss, hp, hm, rfl⟩ := h
  rcases List.mem_append.1 hx with hx | hx
  · revert hx
    cases owL L with
    | none => intro hx; cases hx
    | some s =>
      intro hx
      simp [ownP] at hx
      rw [hx] at ho
      cases ho
  · obtain ⟨a, ha, rfl⟩ := List.mem_map.1 hx
    have hMB : MB (mpL L) := mb_all L _ mb_nil hb
    obtain ⟨v, hv⟩ := Option.isSome_iff_exists.1 ((hm a).1 ha)
    exact ⟨(hMB a v hv).1, hMB.getD a⟩
theorem nwR_rok {x : Bool × Int × Int} (h1 : U32 x.2.1) (h2 : U32 x.2.2) : (nwR x).Ok := ⟨h1, gr_u32 h2, by simp [nwR, I64], by simp [nwR, U32], by simp [nwR, U64], by simp [nwR], by simp [nwR], by simp [nwR]⟩

theorem MT.empty {me : Int} {T M : Nat} {W : World} (hT : TbB T me M W) (hM : MapP W M (fun _ => none) 0) : MT me T M (fun _ => none) (fun _ => .slice none 0 0) [] W :=
  ⟨hT, hM, List.Pairwise.nil, by simp, fun d B _ h => (by cases h), by simp, by simp, by simp, by simp⟩
end Go.Proofs.YtakaadcpaeiccabGreat

namespace Go.Proofs.YtakaadcpaeiccabGreat

/-! A mesh as plain data, and what it does. -/

/-- The compact list of records. -/
def cmpL (L : List (Bool × Int × Int)) : List (Bool × Int × Int) := L.foldl (fun o r => putL o (norm r)) []
/-- A node that begins. -/
def St.new (me : Int) (xs : List Int) (now : Int) : St :=
  St.finish ⟨me, gr ((owL (jl xs)).getD 0), if xs = [] then 0 else now + 2000, 0, 0, nwL me (cmpL (jl xs)), [], 0, fun _ => none, 0, 0, [], 0, [], now, [], [], [], [], decide (xs ≠ []), 0⟩
end Go.Proofs.YtakaadcpaeiccabGreat
