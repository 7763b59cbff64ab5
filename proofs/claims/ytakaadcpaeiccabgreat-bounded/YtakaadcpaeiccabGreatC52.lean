import Derived.Test.YtakaadcpaeiccabGreatC51
namespace Go.Proofs.YtakaadcpaeiccabGreat
open Go.RowKit Go.Maps

/-! What a node does takes its effect: with all that holds of a mesh. -/
theorem DOk.pre' {κ : Int} {q : Nat} {m : Msh} {i : Nat} {z : St} (h : DOk κ q m i z) : ∃ s, m.S[i]? = some s ∧ m.at' i = s ∧ SPre κ q m.now s z := by
  obtain ⟨s, h1, h2⟩ := h.pre
  exact ⟨s, h1, at_of h1, h2⟩
theorem MOk.node {κ : Int} {q : Nat} {m : Msh} (h : MOk κ q m) {i : Nat} (hi : i < m.S.length) {z : St} (hz : (m.at' i).nd = some z) : NOk κ q m.now (m.at' i) z := by
  have hs : m.S[i]? = some m.S[i] := List.getElem?_eq_getElem hi
  rw [at_of hs] at hz ⊢
  exact (h.at hs).nd z hz
theorem didK_S (φ : Msh → Int × ByteArray → Msh × List Ev) (hφ : ∀ m f, (φ m f).1.S.length = m.S.length) (m : Msh) (i : Nat) (o : Ot) (k : Nat) : (didK φ m i o k).1.S.length = m.S.length := by
  have hg : ∀ (L : List (Int × ByteArray)) (z : Msh × List Ev), (L.foldl (didF φ) z).1.S.length = z.1.S.length := by
    intro L
    induction L with
    | nil => intro z; rfl
    | cons f L ih =>
      intro z
      rw [List.foldl_cons, ih]
      exact hφ z.1 f
  unfold didK
  rw [hg, (put_S _ _ _).1, List.length_set]
theorem sendF_S (m : Msh) (i : Nat) (f : Int × ByteArray) : (m.sendF i f).S = m.S ∧ (m.sendF i f).now = m.now := by
  have := sentTo_S m i f m.S.length
  rw [sentTo_all] at this
  exact this
theorem didW_S (φ : Msh → Int × ByteArray → Msh × List Ev) (hφ : ∀ m f, (φ m f).1.S.length = m.S.length) (m : Msh) (i : Nat) (o : Ot) : (m.didW φ i o).1.S.length = m.S.length := by
  cases hi : o.idle
  · cases hw : ((m.at' i).write o).2
    · unfold Msh.didW
      rw [if_neg (by simp [hi]), if_neg (by simp [hw])]
      rw [(put_S _ _ _).1, List.length_set]
    · rw [didW_all φ m i o hi hw]
      exact didK_S φ hφ m i o _
  · unfold Msh.didW
    rw [if_pos hi]
theorem out0_S (i : Nat) (m : Msh) (f : Int × ByteArray) : (m.out0 i f).1.S.length = m.S.length := by
  show (m.sendF i f).S.length = _
  rw [(sendF_S m i f).1]
theorem out1_S (i : Nat) (m : Msh) (f : Int × ByteArray) : (m.out1 i f).1.S.length = m.S.length := by
  unfold Msh.out1
  split
  · dsimp only; rw [(sendF_S m i f).1]
  · split
    · dsimp only; rw [(sendF_S m i f).1]
    · unfold Msh.didB
      rw [didW_S _ (out0_S i), (put_S _ _ _).1, List.length_set, (sendF_S m i f).1]

theorem M_didB {y : MG} {m : Msh} {w : World} (h : MM y m w) {κ : Int} {q : Nat} {i : Nat} {z : St} (hd : DOk κ q m i z) (h0 : ∀ f ∈ z.frs, f.1 = 0) (frm cam drp : Value) (b : Nat) (hor : OutR b z.frs z.cms z.drs frm cam drp w) (hb : b ≤ w.heap.size) :
    Calls Tryz.prog 36 #[.pointer (some ⟨y.G, 0, none⟩), .int .i64 i, outV z.jrn z.rep frm cam drp] w (DidP y m (m.didB i z.ot).1 (m.didB i z.ot).2 b w) := by
  obtain ⟨s, h1, h2, h3⟩ := hd.pre'
  have hi := (List.getElem?_eq_some_iff.1 h1).1
  have hI := h3.nd.inv
  have hnw := h3.nwl
  refine M_did h i hi hd.n (Msh.out0 i) z.ot frm cam drp b hor hb hI.bd (by show z.nws.length ≤ _; omega) ⟨hI.frl, hI.cml, hI.drl⟩ (by rw [h2]; have := h3.jl; omega) (by rw [h2]; exact h3.wh) (out0_len i) ?_
  intro k f hf _ _ y1 w1 hm1
  have hk := (List.getElem?_eq_some_iff.1 hf).1
  have hok := didK_ok (out0_ok i) hd k (Nat.le_of_lt hk)
  have hS := didK_S (Msh.out0 i) (out0_S i) m i z.ot k
  have hf0 := h0 f (List.mem_of_getElem? hf)
  have e : Msh.out1 i (didK (Msh.out0 i) m i z.ot k).1 f = Msh.out0 i (didK (Msh.out0 i) m i z.ot k).1 f := by
    unfold Msh.out1
    rw [if_pos (.inr hf0)]
    rfl
  rw [← e]
  exact M_sendFrame hm1 i (by rw [hS]; exact hi) hok.n hok.air f (fun u hu => ⟨_, (hok.node (by rw [hS]; exact hi) hu).inv, (hok.node (by rw [hS]; exact hi) hu).nw⟩) hok.now.2 (fun hne => absurd hf0 hne)

theorem M_didA {y : MG} {m : Msh} {w : World} (h : MM y m w) {κ : Int} {q : Nat} {i : Nat} {z : St} (hd : DOk κ q m i z) (frm cam drp : Value) (b : Nat) (hor : OutR b z.frs z.cms z.drs frm cam drp w) (hb : b ≤ w.heap.size) :
    Calls Tryz.prog 36 #[.pointer (some ⟨y.G, 0, none⟩), .int .i64 i, outV z.jrn z.rep frm cam drp] w (DidP y m (m.did i z.ot).1 (m.did i z.ot).2 b w) := by
  obtain ⟨s, h1, h2, h3⟩ := hd.pre'
  have hi := (List.getElem?_eq_some_iff.1 h1).1
  have hI := h3.nd.inv
  have hnw := h3.nwl
  refine M_did h i hi hd.n (Msh.out1 i) z.ot frm cam drp b hor hb hI.bd (by show z.nws.length ≤ _; omega) ⟨hI.frl, hI.cml, hI.drl⟩ (by rw [h2]; have := h3.jl; omega) (by rw [h2]; exact h3.wh) (out1_len i) ?_
  intro k f hf _ _ y1 w1 hm1
  have hk := (List.getElem?_eq_some_iff.1 hf).1
  have hok := didK_ok (out1_ok i) hd k (Nat.le_of_lt hk)
  have hS := didK_S (Msh.out1 i) (out1_S i) m i z.ot k
  refine M_sendFrame hm1 i (by rw [hS]; exact hi) hok.n hok.air f (fun u hu => ⟨_, (hok.node (by rw [hS]; exact hi) hu).inv, (hok.node (by rw [hS]; exact hi) hu).nw⟩) hok.now.2 ?_
  intro _ u hu y2 w2 b2 frm2 cam2 drp2 hm2 hb2 hor2
  have hsf := hok.sendF i f
  obtain ⟨eS, eN⟩ := sendF_S (didK (Msh.out1 i) m i z.ot k).1 i f
  obtain ⟨v, hv⟩ : ∃ v, ((didK (Msh.out1 i) m i z.ot k).1.sendF i f).S[i]? = some v := ⟨_, List.getElem?_eq_getElem (by rw [eS, hS]; exact hi)⟩
  rw [at_of hv] at hu hm2 ⊢
  have hbk := hsf.broken hv hu f.1
  rw [eN] at hbk
  exact M_didB hm2 hbk (brk_frs u _ _) frm2 cam2 drp2 b2 hor2 hb2
/-- What holds of a mesh behind a node's call and all that it does. -/
theorem did_ok {κ : Int} {q : Nat} {m : Msh} {i : Nat} {z : St} (hd : DOk κ q m i z) : MOk (κ + 100000) q (m.did i z.ot).1 := by
  have h := didW_ok (out1_ok i) hd
  obtain ⟨s, _, _, h3⟩ := hd.pre'
  have := h3.nd.inv.frl
  exact h.up (by omega) (Nat.le_refl _)
end Go.Proofs.YtakaadcpaeiccabGreat

namespace Go.Proofs.YtakaadcpaeiccabGreat

/-! A node's calls, as the mesh needs them. -/
theorem exp_live (A : List Rt) (now : Int) : ∀ y ∈ expL A now, y.valid = true → now < y.exp := by
  intro y hy hv
  obtain ⟨z, hz, rfl⟩ := List.mem_map.1 hy
  unfold expF at hv ⊢
  split at hv
  · cases hv
  · rename_i h
    rw [if_neg h]
    unfold expP at h
    simp only [Bool.and_eq_true, decide_eq_true_eq, not_and] at h
    have := h hv
    omega
theorem prs_hearPkt (s : St) (fr : Int) (p : Pkt) (L : List (Int × Int)) (hk : p.kind = 1 ∨ p.kind = 2 ∨ p.kind = 3 ∨ p.kind = 9) (h4 : ∀ q ∈ s.Q, q.txt.length ≤ 4) (hx : ∀ y ∈ s.A, y.valid = true → s.now < y.exp) : Prs (some (fr, p, L)) (L.length + 15) s (s.hearPkt fr p L) := by
  unfold St.hearPkt
  split
  · exact (prs_hearSilent _ s fr p).up (by omega)
  · split
    · rename_i h
      exact (prs_hearRequest s fr p L h).up (by omega)
    · split
      · rename_i h
        exact (prs_hearReply s fr p L h h4).up (by omega)
      · split
        · exact (prs_hearLose s fr p L).up (by omega)
        · rename_i h1 h2 h3
          have h9 : p.kind = 9 := by
            rcases hk with h | h | h | h
            · exact absurd h h1
            · exact absurd h h2
            · exact absurd h h3
            · exact h
          exact (prs_hearData s fr p L h9 hx).up (by omega)
theorem pkOf_k (x0 x1 x2 x4 : Int) (r : List Int) : (pkOf x0 x1 x2 x4 r).kind = x1 := by
  unfold pkOf
  split
  · rename_i h; exact h.symm
  · split
    · rename_i h; exact h.symm
    · split
      · rename_i h; exact h.symm
      · split
        · rename_i h; exact h.symm
        · rfl
theorem pkOf_kind' {xs : List Int} (h : isF xs = true) : (pkOf (xs.getD 0 0) (xs.getD 1 0) (xs.getD 2 0) (xs.getD 4 0) (xs.drop 5)).kind = xs.getD 1 0 ∧ (xs.getD 1 0 = 1 ∨ xs.getD 1 0 = 2 ∨ xs.getD 1 0 = 3 ∨ xs.getD 1 0 = 9) := by
  refine ⟨pkOf_k _ _ _ _ _, ?_⟩
  match xs, h with
  | x0 :: x1 :: x2 :: x3 :: x4 :: r, h =>
    simp only [isF, Bool.and_eq_true] at h
    have hk := (good_parts h.2).2.2.2.2.2.2
    rw [pkOf_k] at hk
    show x1 = 1 ∨ x1 = 2 ∨ x1 = 3 ∨ x1 = 9
    rcases hk with h | h | h | h
    · exact .inl h
    · exact .inr (.inl h)
    · exact .inr (.inr (.inr h))
    · exact .inr (.inr (.inl h.1))
/-- What is heard in a call. -/
def hrdOf (fr : Int) (xs : List Int) : Hrd := some (fr, pkOf (xs.getD 0 0) (xs.getD 1 0) (xs.getD 2 0) (xs.getD 4 0) (xs.drop 5), lsOf (xs.getD 1 0) (xs.getD 4 0) (xs.drop 5))
theorem prs_hear (s : St) (fr : Int) (xs : List Int) (h4 : ∀ q ∈ s.Q, q.txt.length ≤ 4) (hx : ∀ y ∈ s.A, y.valid = true → s.now < y.exp) : Prs (hrdOf fr xs) ((lsOf (xs.getD 1 0) (xs.getD 4 0) (xs.drop 5)).length + 15) s (s.hear fr xs) := by
  unfold St.hear
  split
  · exact (prs_drop _ s 0).up (by omega)
  · rename_i h
    simp only [not_or] at h
    have hF : isF xs = true := by simpa using h.1
    obtain ⟨h1, h2⟩ := pkOf_kind' hF
    exact prs_hearPkt s fr _ _ (by rw [h1]; exact h2) h4 hx
theorem rcv_prs (s : St) (now fr : Int) (xs : List Int) (h4 : ∀ q ∈ s.Q, q.txt.length ≤ 4) : ∃ n s', Prs (hrdOf fr xs) n (s.locked.begin now) s' ∧ s.rcv now fr xs = s'.finish.freed :=
  ⟨_, _, prs_hear _ fr xs h4 (exp_live s.A now), rfl⟩
theorem snd_prs (s : St) (now d : Int) (t : ByteArray) : ∃ n s', Prs none n (s.locked.begin now) s' ∧ s.snd now d t = s'.finish.freed := by
  unfold St.snd St.sends
  dsimp only
  split
  · exact ⟨_, _, prs_sendText none _ d t, rfl⟩
  · exact ⟨_, _, prs_await none _ d t, rfl⟩
/-- The searches are in order. -/
def SrsOk (s : St) : Prop := ∀ q ∈ s.Q, q.txt.length ≤ 4 ∧ 1 ≤ q.ttl ∧ q.ttl ≤ 8
theorem qok_ask {s : St} {q : Sr} (h : SrsOk s) (hq : q.txt.length ≤ 4 ∧ 1 ≤ q.ttl ∧ q.ttl ≤ 8) : SrsOk (s.ask q) := by
  intro z hz
  obtain ⟨o, h1, _⟩ : ∃ o, (s.ask q).Q = _ ∧ True := ⟨(), rfl, trivial⟩
  unfold St.ask at hz
  split at hz
  · rcases setQ_mem hz with rfl | ⟨k1, _⟩
    · exact hq
    · exact h z k1
  · split at hz
    · rcases setQ_mem hz with rfl | ⟨k1, _⟩
      · exact hq
      · exact h z k1
    · rcases setQ_mem hz with rfl | ⟨k1, _⟩
      · exact hq
      · exact h z k1
theorem qok_sendAll {s : St} (h : SrsOk s) (d : Int) : SrsOk (s.sendAll d) := fun z hz => h z ((sendAll_Q s d).1 z hz)
theorem qok_step {s : St} {q : Sr} (h : SrsOk s) (hq : q.txt.length ≤ 4 ∧ 1 ≤ q.ttl ∧ q.ttl ≤ 8) : SrsOk (s.step q) := by
  unfold St.step
  split
  · exact qok_sendAll h _
  · split
    · unfold St.widen
      split
      · exact qok_ask h ⟨hq.1, by dsimp only; omega⟩
      · split
        · exact qok_ask h ⟨hq.1, by dsimp only; omega⟩
        · split
          · exact qok_ask h hq
          · exact fun z hz => h z (List.mem_filter.1 hz).1
    · exact qok_ask h hq
theorem prs_steps : ∀ (D : List Sr) (s : St), (∀ q ∈ D, q.txt.length ≤ 4 ∧ 1 ≤ q.ttl ∧ q.ttl ≤ 8) → SrsOk s → Prs none (13 * D.length) s (D.foldl St.step s)
  | [], s, _, _ => .nil _ _
  | q :: D, s, hD, h => by
    rw [List.foldl_cons, List.length_cons]
    have hq := hD q List.mem_cons_self
    exact ((prs_step none s q ⟨hq.2.1, hq.2.2⟩ (fun z hz => (h z hz).1)).trans (prs_steps D (s.step q) (fun z hz => hD z (List.mem_cons_of_mem _ hz)) (qok_step h hq))).up (by omega)
theorem dueQ_mem {Q : List Sr} {now : Int} {q : Sr} (h : q ∈ St.dueQ Q now) : q ∈ Q := by
  unfold St.dueQ at h
  exact (List.mem_filter.1 ((List.mergeSort_perm _ _).mem_iff.1 h)).1
theorem tck_prs (s : St) (now : Int) (h : SrsOk s) : ∃ s', Prs none (13 * (St.dueQ s.Q now).length) (s.locked.begin now) s' ∧ s.tck now = s'.finish.freed :=
  ⟨_, prs_steps (St.dueQ s.Q now) (s.locked.begin now) (fun q hq => h q (dueQ_mem hq)) h, rfl⟩
theorem fin_now (s : St) : s.finish.freed.me = s.me ∧ s.finish.freed.now = s.now ∧ s.finish.freed.Q = s.Q := ⟨(finish_same s).me, (finish_same s).now, (finish_same s).Q⟩
theorem prs_rest {c : Hrd} {n : Nat} {s s' : St} {now : Int} (h : Prs c n (s.locked.begin now) s') : s'.finish.freed.me = s.me ∧ s'.finish.freed.now = now := by
  obtain ⟨h1, h2, _⟩ := fin_now s'
  exact ⟨h1.trans h.me, h2.trans h.now⟩
theorem ask_Ql (s : St) (q : Sr) : (s.ask q).Q.length = s.Q.length := by
  obtain ⟨o, h1, _⟩ := ask_Q s q
  rw [h1, setQ_len]
theorem sendAll_Ql (s : St) (d : Int) : (s.sendAll d).Q.length ≤ s.Q.length := by
  unfold St.sendAll
  split
  · exact Nat.le_refl _
  · split
    · exact List.length_filter_le _ _
    · exact Nat.le_refl _
theorem step_Ql (s : St) (q : Sr) : (s.step q).Q.length ≤ s.Q.length := by
  unfold St.step
  split
  · exact sendAll_Ql _ _
  · split
    · unfold St.widen
      split
      · rw [ask_Ql]; exact Nat.le_refl _
      · split
        · rw [ask_Ql]; exact Nat.le_refl _
        · split
          · rw [ask_Ql]; exact Nat.le_refl _
          · exact List.length_filter_le _ _
    · rw [ask_Ql]; exact Nat.le_refl _
theorem steps_Ql : ∀ (D : List Sr) (s : St), (D.foldl St.step s).Q.length ≤ s.Q.length
  | [], _ => Nat.le_refl _
  | q :: D, s => by
    rw [List.foldl_cons]
    exact Nat.le_trans (steps_Ql D _) (step_Ql s q)
theorem tck_Ql (s : St) (now : Int) : (s.tck now).Q.length ≤ s.Q.length := by
  show ((St.dueQ s.Q now).foldl St.step (s.locked.begin now)).finish.Q.length ≤ _
  rw [(finish_same _).Q]
  exact steps_Ql _ _
theorem snd_Ql (s : St) (now d : Int) (t : ByteArray) : (s.snd now d t).Q.length ≤ s.Q.length + 1 := by
  show (if (findL (s.locked.begin now).A d (s.locked.begin now).now).2 then (s.locked.begin now).sendText d t else (s.locked.begin now).await d t).finish.Q.length ≤ _
  rw [(finish_same _).Q]
  split
  · rw [(sendText_same _ _ _).1]
    exact Nat.le_succ _
  · unfold St.await
    split
    · unfold St.hold
      split <;> (dsimp only; rw [setQ_len]; exact Nat.le_succ _)
    · rw [ask_Ql]
      show ((s.locked.begin now).Q ++ [_]).length ≤ _
      rw [List.length_append]
      exact Nat.le_refl _
theorem answer_Q (s : St) (p : Pkt) : (s.answer p).Q = s.Q := by unfold St.answer; split <;> rfl
theorem hearRequest_Q (s : St) (fr : Int) (p : Pkt) : (s.hearRequest fr p).Q = s.Q := by
  have ha : ∀ s : St, (s.asked p).Q = s.Q := fun s => by
    unfold St.asked
    split
    · unfold St.answerSelf; rw [answer_Q]
    · split
      · unfold St.answerOther; rw [answer_Q]
      · split <;> rfl
  unfold St.hearRequest
  split
  · rfl
  · unfold St.learn
    split
    · rfl
    · split
      · rw [ha]
      · rw [ha]
theorem lose_Q (s : St) (t : Int) (L : List (Int × Int)) : (s.lose t L).Q = s.Q := rfl
theorem hear_Ql (s : St) (fr : Int) (xs : List Int) : (s.hear fr xs).Q.length ≤ s.Q.length := by
  unfold St.hear
  split
  · exact Nat.le_refl _
  · unfold St.hearPkt
    split
    · unfold St.hearSilent
      split <;> exact Nat.le_refl _
    · split
      · rw [hearRequest_Q]; exact Nat.le_refl _
      · split
        · unfold St.hearReply
          split
          · exact Nat.le_refl _
          · dsimp only
            split
            · exact Nat.le_refl _
            · split
              · split
                · exact sendAll_Ql _ _
                · exact sendAll_Ql _ _
              · split
                · exact Nat.le_refl _
                · unfold St.replyOn
                  split <;> exact Nat.le_refl _
        · split
          · unfold St.hearLose
            dsimp only
            rw [lose_Q]
            split <;> exact Nat.le_refl _
          · unfold St.hearData
            split
            · exact Nat.le_refl _
            · split
              · exact Nat.le_refl _
              · split <;> exact Nat.le_refl _
theorem rcv_Q (s : St) (now fr : Int) (xs : List Int) : (s.rcv now fr xs).Q.length ≤ s.Q.length := by
  show ((s.locked.begin now).hear fr xs).finish.Q.length ≤ _
  rw [(finish_same _).Q]
  exact hear_Ql _ _ _
theorem rcv_pos {s : St} (h : s.Pos) (now fr : Int) (xs : List Int) (hb : ∀ x ∈ xs, 0 ≤ x ∧ x ≤ 255) (h4 : ∀ q ∈ s.Q, q.txt.length ≤ 4) : (s.rcv now fr xs).Pos := by
  intro q hq
  have hq' : q ∈ ((s.locked.begin now).hear fr xs).Q := by
    have e := (finish_same ((s.locked.begin now).hear fr xs)).Q
    rw [← e]
    exact hq
  exact h q ((eff_hear (s.locked.begin now) fr xs hb h4).qs q hq')
end Go.Proofs.YtakaadcpaeiccabGreat
