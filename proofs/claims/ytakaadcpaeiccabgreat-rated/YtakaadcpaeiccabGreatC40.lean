import Derived.Test.YtakaadcpaeiccabGreatC37
import Derived.Test.YtakaadcpaeiccabGreatC39
import Derived.Test.YtakaadcpaeiccabGreatC26
namespace Go.Proofs.YtakaadcpaeiccabGreat

/-! What is read of a request's frame; the first request. -/
theorem fr_frame {z : Int × ByteArray} {q : Int} (W : World) (h : FrOk z q) (hq : U32 q) : z.1 = 0 ∧ isF (strNums z.2) = true ∧ z.2.size ≤ 65536 ∧ ∃ x0 x2 x4 r, strNums z.2 = x0 :: 1 :: x2 :: 0 :: x4 :: r ∧ (pkOf x0 1 x2 x4 r).kind = 1 ∧ (pkOf x0 1 x2 x4 r).frm = 1 ∧ (pkOf x0 1 x2 x4 r).fseq = q := by
  obtain ⟨ttl, i, d, h1, h2, hi, hd, rfl⟩ := h
  have hwf : (St.reqP ttl true i d 0 1 q).Wf := reqP_wf ⟨by omega, by omega⟩ hi hd u32_zero ⟨by decide, by decide⟩ hq
  have hg : (St.reqP ttl true i d 0 1 q).goodB = true := by
    show (decide (1 ≤ ttl ∧ ttl ≤ 255) && fitsB 1 0 && !(true && (0 : Int) != 0) && (St.reqP ttl true i d 0 1 q).forP.blankB) = true
    rw [decide_eq_true (⟨h1, by omega⟩ : 1 ≤ ttl ∧ ttl ≤ 255)]
    rfl
  obtain ⟨d1, d2, _⟩ := dec_enc (St.reqP ttl true i d 0 1 q) hg [] rfl
  have hF := isF_enc (St.reqP ttl true i d 0 1 q) hg [] rfl
  have hb := encB_b (W := W) (L := []) hwf hg (fun j hj => by simp at hj)
  generalize hp : St.reqP ttl true i d 0 1 q = p at hwf hg d1 d2 hF hb ⊢
  have hk : p.kind = 1 := by rw [← hp]; rfl
  have hf : p.frm = 1 := by rw [← hp]; rfl
  have hs : p.fseq = q := by rw [← hp]; rfl
  have he : encX p [] = encB p [] := by simp [encX, hg]
  have hn : strNums (strOfNums (encX p [])) = encB p [] := by
    rw [he]
    exact strNums_of hb
  have hlen : (encB p []).length = 25 := by
    rw [encB_cons]
    simp only [List.length_cons]
    rw [d1, hk]
    rfl
  refine ⟨rfl, by rw [hn]; exact hF, ?_, p.ttl, flagB p, p.cnt, tailB p [], ?_, ?_, ?_, ?_⟩
  · show (strOfNums (encX p [])).size ≤ 65536
    rw [← strNums_length, hn, hlen]
    omega
  · rw [hn, encB_cons, hk]
  · rw [hk] at d2; rw [d2]
  · rw [hk] at d2; rw [d2]; exact hf
  · rw [hk] at d2; rw [d2]; exact hs
theorem tck_Qnil {s : St} (h : s.Q = []) (now : Int) : (s.tck now).Q = [] ∧ (s.tck now).frs = [] ∧ (s.tck now).pc = s.pc ∧ (s.tck now).now = now := by
  have e := finish_same (s.locked.begin now)
  have hd : St.dueQ s.Q now = [] := by rw [h]; simp [St.dueQ]
  have hs : s.tck now = (s.locked.begin now).finish.freed := by
    unfold St.tck St.tick
    dsimp only
    rw [show (s.locked.begin now).Q = s.Q from rfl, hd]
    rfl
  rw [hs]
  exact ⟨e.Q.trans h, e.frs, e.pc, e.now⟩
theorem snd_first {last : Int} {s : St} (h : Rtd last [] s) (hQ : s.Q = []) (now d : Int) (t : ByteArray) (hn : 0 ≤ now) : (s.snd now d t).frs.length = 1 := by
  have hf : (findL (s.locked.begin now).A d (s.locked.begin now).now).2 = false := by rw [(h.begin now).A]; rfl
  have hpc : (s.locked.begin now).pc = [] := h.pc
  have hsil : (s.locked.begin now).sil = 0 := h.sil
  have e : s.snd now d t = ((s.locked.begin now).await d t).finish.freed := by
    unfold St.snd St.sends
    dsimp only
    rw [hf]
    rfl
  have hso : St.srOf (s.locked.begin now).Q d = none := by
    rw [show (s.locked.begin now).Q = s.Q from rfl, hQ]
    rfl
  have hh : ({ s.locked.begin now with Q := (s.locked.begin now).Q ++ [St.newQ d t] } : St).holds = none := by
    unfold St.holds
    have h1 : St.full (s.locked.begin now).pc (s.locked.begin now).now = false := by rw [hpc]; rfl
    have h2 : ¬ (s.locked.begin now).now < (s.locked.begin now).sil := by
      rw [hsil]
      show ¬ now < 0
      omega
    dsimp only
    rw [h1, if_neg (by simp), if_neg h2]
  rw [e]
  show (((s.locked.begin now).await d t).finish.frs).length = 1
  rw [(finish_same _).frs]
  unfold St.await
  rw [hso]
  dsimp only
  rw [ask_eq, hh]
  rfl
theorem snd_Q (s : St) (now d : Int) (t : ByteArray) (hA : s.A = []) : (s.snd now d t).Q.length ≤ s.Q.length + 1 := by
  have hf : (findL (s.locked.begin now).A d (s.locked.begin now).now).2 = false := by
    rw [show (s.locked.begin now).A = expL s.A now from rfl, hA]
    rfl
  have e : s.snd now d t = ((s.locked.begin now).await d t).finish.freed := by
    unfold St.snd St.sends
    dsimp only
    rw [hf]
    rfl
  rw [e]
  show ((s.locked.begin now).await d t).finish.Q.length ≤ _
  rw [(finish_same _).Q]
  unfold St.await
  split
  · unfold St.hold
    split <;> (dsimp only; rw [setQ_len]; exact Nat.le_succ _)
  · obtain ⟨o, h1, _⟩ := ask_Q ({ s.locked.begin now with Q := (s.locked.begin now).Q ++ [St.newQ d t] } : St) (St.newQ d t)
    rw [h1, setQ_len]
    show ((s.locked.begin now).Q ++ [_]).length ≤ _
    rw [List.length_append]
    exact Nat.le_refl _
theorem step_Q (s : St) (q : Sr) (hA : s.A = []) : (s.step q).Q.length ≤ s.Q.length ∧ (s.step q).A = [] := by
  unfold St.step
  rw [hA, find_nil]
  simp only [Bool.false_eq_true, if_false]
  have hk : ∀ q' : Sr, (s.ask q').Q.length ≤ s.Q.length ∧ (s.ask q').A = [] := fun q' => by
    obtain ⟨o, h1, _⟩ := ask_Q s q'
    refine ⟨by rw [h1, setQ_len]; exact Nat.le_refl _, ?_⟩
    rw [ask_eq]
    split
    · exact hA
    · exact hA
  split
  · unfold St.widen
    split
    · exact hk _
    · split
      · exact hk _
      · split
        · exact hk _
        · exact ⟨List.length_filter_le _ _, hA⟩
  · exact hk _
theorem tck_Q (s : St) (now : Int) (hA : s.A = []) : (s.tck now).Q.length ≤ s.Q.length := by
  have key : ∀ (D : List Sr) (z : St), z.A = [] → (D.foldl St.step z).Q.length ≤ z.Q.length := by
    intro D
    induction D with
    | nil => intro z _; exact Nat.le_refl _
    | cons q D ih =>
      intro z hz
      rw [List.foldl_cons]
      obtain ⟨h1, h2⟩ := step_Q z q hz
      exact Nat.le_trans (ih _ h2) h1
  have h := key (St.dueQ s.Q now) (s.locked.begin now) (by rw [show (s.locked.begin now).A = expL s.A now from rfl, hA]; rfl)
  show ((St.dueQ s.Q now).foldl St.step (s.locked.begin now)).finish.Q.length ≤ _
  rw [(finish_same _).Q]
  exact h
/-- Each search has a timer. -/
def St.Pos (s : St) : Prop := ∀ q ∈ s.Q, 0 < q.id
theorem pos_ask {s : St} {q : Sr} (h : ∀ z ∈ s.Q, z.dest ≠ q.dest → 0 < z.id) (ht : 0 ≤ s.tl) : (s.ask q).Pos ∧ 0 ≤ (s.ask q).tl := by
  obtain ⟨o, h1, h2⟩ := ask_Q s q
  refine ⟨fun z hz => ?_, by omega⟩
  rw [h1] at hz
  rcases setQ_mem hz with rfl | ⟨k1, k2⟩
  · dsimp only
    omega
  · exact h z k1 k2
theorem sendAll_Q (s : St) (d : Int) : (∀ z ∈ (s.sendAll d).Q, z ∈ s.Q) ∧ (s.sendAll d).tl = s.tl := by
  have ht : ∀ (l : List ByteArray) (s : St), (l.foldl (fun s t => s.sendText d t) s).tl = s.tl := by
    intro l
    induction l with
    | nil => intro s; rfl
    | cons a l ih =>
      intro s
      rw [List.foldl_cons, ih]
      unfold St.sendText
      split <;> rfl
  unfold St.sendAll
  split
  · exact ⟨fun _ h => h, rfl⟩
  · split
    · exact ⟨fun z hz => (List.mem_filter.1 hz).1, ht _ _⟩
    · exact ⟨fun _ h => h, rfl⟩
theorem pos_step {s : St} (h : s.Pos) (ht : 0 ≤ s.tl) (q : Sr) : (s.step q).Pos ∧ 0 ≤ (s.step q).tl := by
  unfold St.step
  split
  · obtain ⟨h1, h2⟩ := sendAll_Q s q.dest
    exact ⟨fun z hz => h z (h1 z hz), by omega⟩
  · split
    · unfold St.widen
      split
      · exact pos_ask (fun z hz _ => h z hz) ht
      · split
        · exact pos_ask (fun z hz _ => h z hz) ht
        · split
          · exact pos_ask (fun z hz _ => h z hz) ht
          · exact ⟨fun z hz => h z (List.mem_filter.1 hz).1, ht⟩
    · exact pos_ask (fun z hz _ => h z hz) ht
theorem pos_tck {s : St} (h : s.Pos) (ht : 0 ≤ s.tl) (now : Int) : (s.tck now).Pos := by
  have key : ∀ (D : List Sr) (z : St), z.Pos → 0 ≤ z.tl → (D.foldl St.step z).Pos := by
    intro D
    induction D with
    | nil => intro z h _; exact h
    | cons q D ih =>
      intro z hz htz
      rw [List.foldl_cons]
      obtain ⟨h1, h2⟩ := pos_step hz htz q
      exact ih _ h1 h2
  have h1 := key (St.dueQ s.Q now) (s.locked.begin now) h ht
  intro q hq
  refine h1 q ?_
  have e := (finish_same ((St.dueQ s.Q now).foldl St.step (s.locked.begin now))).Q
  rw [← e]
  exact hq
theorem pos_snd {s : St} (h : s.Pos) (ht : 0 ≤ s.tl) (now d : Int) (t : ByteArray) : (s.snd now d t).Pos := by
  have e := (finish_same (if (findL (s.locked.begin now).A d (s.locked.begin now).now).2 then (s.locked.begin now).sendText d t else (s.locked.begin now).await d t)).Q
  intro q hq
  have hq' : q ∈ (if (findL (s.locked.begin now).A d (s.locked.begin now).now).2 then (s.locked.begin now).sendText d t else (s.locked.begin now).await d t).Q := by
    rw [← e]
    exact hq
  split at hq'
  · rw [(sendText_same _ _ _).1] at hq'
    exact h q hq'
  · unfold St.await at hq'
    split at hq'
    · rename_i q0 hs
      have hm := (srOf_some hs).1
      have : ∀ q' : Sr, q'.id = q0.id → ∀ z ∈ St.setQ s.Q q', 0 < z.id := fun q' e z hz => by
        rcases setQ_mem hz with rfl | ⟨k1, _⟩
        · rw [e]; exact h q0 hm
        · exact h z k1
      unfold St.hold at hq'
      split at hq'
      · exact this { q0 with txt := q0.txt.tail ++ [t] } rfl q hq'
      · exact this { q0 with txt := q0.txt ++ [t] } rfl q hq'
    · refine (pos_ask (s := { s.locked.begin now with Q := (s.locked.begin now).Q ++ [St.newQ d t] }) (q := St.newQ d t) (fun z hz hne => ?_) ht).1 q hq'
      rcases List.mem_append.1 hz with k | k
      · exact h z k
      · rw [List.mem_singleton] at k
        rw [k] at hne
        exact absurd rfl hne
end Go.Proofs.YtakaadcpaeiccabGreat

namespace Go.Proofs.YtakaadcpaeiccabGreat
open Go.RowKit Go.Maps

/-! Rated: what holds from call to call. -/
structure RQ (N : Nat) (w : World) (g : NdG) (s : St) (TL : List Hp.Tm) (m : Int) (g1 : Nat) (o1 : Obj) (us : List Int) (sv : Value) (W : World) : Prop where
  nn : Nn N g s TL W
  tm : TmOk s TL
  inv : s.Inv m
  pos : s.Pos
  row : W.ownsRow w.heap.size 35 1 sv us.length (us.map (Value.int .u64))
  off : ∀ k, sv.ownBlock = some k → ¬ Ft N g s k
  lb : W.heap[g1]? = some o1
  lo : ¬ Ft N g s g1
  ko : ∀ c, o1 ≠ .cells c 35 (0, 0)
  low : ∀ k, Ft N g s k → w.heap.size ≤ k
  below : Below w.heap.size w W
theorem RQ.later {N : Nat} {w : World} {g : NdG} {s : St} {TL : List Hp.Tm} {m : Int} {g1 : Nat} {o1 : Obj} {us : List Int} {sv : Value} {W W' : World} (h : RQ N w g s TL m g1 o1 us sv W) (hb : Below W.heap.size W W') : RQ N w g s TL m g1 o1 us sv W' :=
  ⟨h.nn.later hb, h.tm, h.inv, h.pos, row_at h.row fun k hk => hb.block k (h.row.lt k hk).2, h.off, (hb.block g1 (some_lt h.lb)).trans h.lb, h.lo, h.ko, h.low, h.below.trans (hb.mono h.below.size)⟩
theorem RQ.turn {N : Nat} {w : World} {g g' : NdG} {s s' : St} {TL TL' : List Hp.Tm} {m m' : Int} {g1 : Nat} {o1 : Obj} {us : List Int} {sv : Value} {W W' : World} (h : RQ N w g s TL m g1 o1 us sv W) (nn' : Nn N g' s' TL' W') (tm' : TmOk s' TL') (hI : s'.Inv m') (hp : s'.Pos) (fx : Fx (Ft N g s) W W') (sub : ∀ k, Ft N g' s' k → Ft N g s k ∨ (W.heap.size ≤ k ∧ k < W'.heap.size)) : RQ N w g' s' TL' m' g1 o1 us sv W' := by
  have h1 := some_lt h.lb
  have h2 := h.below.size
  refine ⟨nn', tm', hI, hp, row_at h.row fun k hk => fx.block k (h.row.lt k hk).2 (h.off k hk), fun k hk hf => ?_, (fx.block g1 h1 h.lo).trans h.lb, fun hf => ?_, h.ko, fun k hk => ?_, h.below.trans (fx.toBelow h.below.size fun j hj hf => by have := h.low j hf; omega)⟩
  · rcases sub k hf with e | e
    · exact h.off k hk e
    · have := (h.row.lt k hk).2
      omega
  · rcases sub g1 hf with e | e
    · exact h.lo e
    · omega
  · rcases sub k hk with e | e
    · exact h.low k e
    · omega
theorem RQ.push {N : Nat} {w : World} {g : NdG} {s : St} {TL : List Hp.Tm} {m : Int} {g1 : Nat} {o1 : Obj} {us : List Int} {sv : Value} {W w7 : World} (h : RQ N w g s TL m g1 o1 us sv W) {t : Int} {v7 : Value} (ho : w7.ownsRow w.heap.size 35 1 v7 (us.length + 1) (us.map (Value.int .u64) ++ [.int .u64 t])) (hg : (W.alloc (.cells #[.int .u64 t] 35)).grownBy w7 sv.ownBlock) (hv : v7.ownBlock = sv.ownBlock ∨ v7.ownBlock = some (W.alloc (.cells #[.int .u64 t] 35)).heap.size) : RQ N w g s TL m g1 o1 (us ++ [t]) v7 w7 := by
  have hA := h.later ((Below.refl W.heap.size W).alloc (Nat.le_refl _) (.cells #[.int .u64 t] 35))
  have hne : sv.ownBlock ≠ some g1 := row_not hA.row hA.lb h.ko
  refine ⟨hA.nn.kept fun k hk => hg.block k (hA.nn.lt hk) (fun e => h.off k e.symm hk), h.tm, h.inv, h.pos, ?_, fun k hk hf => ?_, (hg.block g1 (some_lt hA.lb) (fun e => hne e.symm)).trans hA.lb, h.lo, h.ko, h.low, hA.below.grown hg hA.below.size fun k e => (hA.row.lt k e).1⟩
  · rw [List.length_append, List.map_append]
    exact ho
  · rcases hv with e | e
    · exact h.off k (e ▸ hk) hf
    · rw [e] at hk
      cases hk
      have := hA.nn.lt hf
      omega
theorem inv_up {k k' : Int} {s : St} (h : s.Inv k) (hk : k ≤ k') : s.Inv k' :=
  ⟨h.me, h.seq, h.now, h.mem, h.dom, h.cnt, by have := h.tn; omega, by have := h.tl; omega, h.lk, h.pcl, h.pcs, h.pcn, h.qid⟩
theorem RQ.up {N : Nat} {w : World} {g : NdG} {s : St} {TL : List Hp.Tm} {m m' : Int} {g1 : Nat} {o1 : Obj} {us : List Int} {sv : Value} {W : World} (h : RQ N w g s TL m g1 o1 us sv W) (hm : m ≤ m') : RQ N w g s TL m' g1 o1 us sv W :=
  ⟨h.nn, h.tm, inv_up h.inv hm, h.pos, h.row, h.off, h.lb, h.lo, h.ko, h.low, h.below⟩
/-- 'append' of a row onto a row of the call's own, for the walk. -/
theorem wpList_append_rows {P : Program} {w : World} {ops : Array Oper} {rest : List Oper} {o : Oper} {a : Act} {Q : Exit → Act → World → Prop} (hg : o.guard = none) (s x : Operand) (t : TypeId) (hop : o.op = Op.call { callee := Callee.builtin Builtin.append, args := #[s, x], argTypes := #[t, t] })
    (base : Nat) (e : TypeId) (i : TypeInfo) (z : Value) (size bytes : Nat) (h1 : P.underlying t = some (.slice e)) (h2 : P.info? e = some i) (h3 : i.zero = some z) (h4 : i.size = size) (h5 : i.bytes = bytes) (h6 : z.cells.size = size) (h7 : 0 < size)
    (v : Value) (n : Nat) (xs : List Value) (hs : a.eval s = v) (hown : w.ownsRow base e size v n xs)
    (base2 : Nat) (v2 : Value) (m : Nat) (ys : List Value) (hx : a.eval x = v2) (hown2 : w.ownsRow base2 e size v2 m ys) (h1c : ∀ u ∈ ys, u.oneCell' = true)
    (b1 : n + m ≤ maxLen) (b2 : (n + m) * bytes ≤ 140737488355328) (hbase : base ≤ w.heap.size)
    (hK : ∀ v' w', w'.ownsRow base e size v' (n + m) (xs ++ ys) → w.grownBy w' v.ownBlock → wpList P ops Q rest (a.put o.dst v') w') :
    wpList P ops Q (o :: rest) a w := by
  refine wpList_plain hg fun K hKK => ?_
  have h := step_append_rows (ops := ops) (E := True) (K := K) (Q := Q) hg s x t hop base e i z size bytes h1 h2 h3 h4 h5 h6 h7 v n xs hs hown base2 v2 m ys hx hown2 h1c b1 b2 hbase fun v' w' k1 k2 => hKK _ _ (hK v' w' k1 k2)
  have hw : Region.wanted o (yielded ops a.tmps) = true := by simp [Region.wanted, hg]
  rw [if_pos hw] at h
  exact h
theorem repl_pre (ts : List Int) (now : Int) {h m i : Nat} (hi : i < ts.length + h) (hm : h ≤ m) : (ts ++ List.replicate h now)[i]? = (ts ++ List.replicate m now)[i]? := by
  obtain ⟨d, rfl⟩ : ∃ d, m = h + d := ⟨m - h, by omega⟩
  rw [← List.replicate_append_replicate, ← List.append_assoc]
  rw [List.getElem?_append_left (l₂ := List.replicate d now) (by rw [List.length_append, List.length_replicate]; exact hi)]
theorem pace_at {now last : Int} {ts : List Int} {F : List (Int × ByteArray)} (ho : Out now last ts F) {h : Nat} (hh : h < F.length) (hpos : ∀ t ∈ ts, 0 ≤ t) (hn : 0 ≤ now) {us : List Int} (hus : ts ++ List.replicate h now = us) (h5 : 5 < us.length + 1) : ∃ t, us[us.length - 5]? = some t ∧ 0 ≤ t ∧ t + 1000 ≤ now := by
  have hul : us.length = ts.length + h := by rw [← hus, List.length_append, List.length_replicate]
  obtain ⟨t, ht1, ht2⟩ := ho.pace h hh (by omega)
  rw [← repl_pre ts now (by omega) (Nat.le_of_lt hh), hus, show ts.length + h - 5 = us.length - 5 by omega] at ht1
  refine ⟨t, ht1, ?_, ht2⟩
  have hm := List.mem_of_getElem? ht1
  rw [← hus] at hm
  rcases List.mem_append.1 hm with e | e
  · exact hpos t e
  · rw [(List.mem_replicate.1 e).2]
    exact hn
theorem arith5 {l : Nat} (h5 : 5 < l + 1) : 5 ≤ l ∧ ((l - 5 : Nat) : Int) < (l : Int) + 1 ∧ (5 : Int) < (l : Int) + 1 := by omega
theorem arith5' {l : Nat} (h5 : ¬ 5 < l + 1) : ¬ (5 : Int) < (l : Int) + 1 := by omega
theorem dec_le {t now : Int} (h : t + 1000 ≤ now) : decide (t + 1000 > now) = false ∧ decide (now < t + 1000) = false := ⟨decide_eq_false (by omega), decide_eq_false (by omega)⟩
theorem wrap1 {h : Nat} (hb : h < 1000000000) : wrap64 ((h : Int) + 1) = (h : Int) + 1 := by unfold wrap64; omega
theorem meas_lt {l h : Nat} (hh : h < l) : l - (intOf (.int .i64 ((h : Int) + 1))).toNat < l - (intOf (.int .i64 (h : Int))).toNat := by
  simp [intOf]
  omega
theorem row_tail {us : List Int} {now t : Int} (ht : us[us.length - 5]? = some t) (h5 : 5 ≤ us.length) : us.length - 5 < us.length + 1 ∧ (us.map (Value.int .u64) ++ [Value.int .u64 now])[us.length - 5]? = some (Value.int .u64 t) := by
  refine ⟨by omega, ?_⟩
  rw [List.getElem?_append_left (by rw [List.length_map]; omega), List.getElem?_map, ht]
  rfl
theorem wraps (l : Nat) (h : l < 1000000000) (h5 : 5 ≤ l) : wrap64 (l : Int) = (l : Int) ∧ wrap64 ((l : Int) - 5) = ((l - 5 : Nat) : Int) := by
  constructor <;> (unfold wrap64; omega)
theorem wrap_k {t now : Int} (h0 : 0 ≤ t) (h1 : t + 1000 ≤ now) (h2 : now ≤ 1000000000000) : IntKind.u64.wrap (t + 1000) = t + 1000 := by
  simp only [IntKind.wrap, IntKind.signed, IntKind.bits]
  simp
  omega
/-- The numbers of a round. -/
structure RN (k : Nat) (nw : Int) (s : St) (ts : List Int) : Prop where
  n0 : 0 ≤ nw
  n1 : nw ≤ 5000 * k
  tim : s.now ≤ nw
  len : ts.length ≤ 5001 * k
  ql : s.Q.length ≤ k
  beg : k = 0 → ts = [] ∧ s.Q = []
  some : 0 < k → 0 < ts.length
  pos : ∀ t ∈ ts, 0 ≤ t
theorem RN.next {k : Nat} {nw now : Int} {s s5 : St} {ts : List Int} {m : Nat} (h : RN k nw s ts) (h0 : nw ≤ now) (h1 : now ≤ nw + 5000) (ht : s5.now ≤ now) (hm : m ≤ 5001) (hq : s5.Q.length ≤ k + 1) (hf : k = 0 → 0 < m) : RN (k + 1) now s5 (ts ++ List.replicate m now) := by
  have a := h.n0
  have b := h.n1
  have c := h.len
  refine ⟨by omega, by omega, ht, by rw [List.length_append, List.length_replicate]; omega, hq, fun e => by omega, fun _ => ?_, fun t ht => ?_⟩
  · rw [List.length_append, List.length_replicate]
    by_cases e : k = 0
    · have := hf e
      omega
    · have := h.some (by omega)
      omega
  · rcases List.mem_append.1 ht with e | e
    · exact h.pos t e
    · rw [(List.mem_replicate.1 e).2]
      omega
/-- A row of frames is none of a node's blocks. -/
theorem Nn.notF {N : Nat} {g : NdG} {s : St} {TL : List Hp.Tm} {W : World} (n : Nn N g s TL W) {b : Nat} {cs : Array Value} (hc : W.heap[b]? = some (.cells cs 77 (0, 0))) : ¬ Ft N g s b := fun hf => by
  obtain ⟨o, ho, _, _, h3, _, _⟩ := n.offA hf
  rw [hc] at ho
  exact h3 cs (Option.some.inj ho).symm
/-- What stands ahead of the reading of a round's frames. -/
structure RCut (N : Nat) (w : World) (g1 : Nat) (o1 : Obj) (k : Nat) (now : Int) (ts : List Int) (sv : Value) (C b : Nat) (W : World) (g5 : NdG) (s5 : St) (TL5 : List Hp.Tm) (F : List (Int × ByteArray)) (af : Option Addr) (kf : Nat) (x0 x1 x3 x4 : Value) : Prop where
  q : RQ N w g5 s5 TL5 (1 + 2 * (k + 1 : Nat)) g1 o1 ts sv W
  r : Rtd (1 + (ts.length : Int) + (F.length : Int)) (ts ++ List.replicate F.length now) s5
  out : Out now (1 + (ts.length : Int)) ts F
  len : F.length ≤ 5001
  blk : W.heap[C]? = some (.cells #[x0, x1, .slice af F.length kf, x3, x4] 52)
  no : ¬ Ft N g5 s5 C
  row : W.ownsRow b 77 2 (.slice af F.length kf) F.length (FrC F)
  tim : s5.now ≤ now
  ql : s5.Q.length ≤ k + 1
  fst : k = 0 → 0 < F.length
/-- What no call of the node turns. -/
theorem RQ.keep {N : Nat} {g : NdG} {s : St} {W W' : World} (fx : Fx (Ft N g s) W W') {k : Nat} {o : Obj} (hk : W.heap[k]? = some o) (hn : ¬ Ft N g s k) : W'.heap[k]? = some o := (fx.block k (some_lt hk) hn).trans hk

theorem RQ.other {N : Nat} {w : World} {g : NdG} {s : St} {TL : List Hp.Tm} {m : Int} {g1 : Nat} {o1 : Obj} {us : List Int} {sv : Value} {W W' : World} (h : RQ N w g s TL m g1 o1 us sv W) {S : Nat → Prop} (fx : Fx S W W') (h1 : ∀ k, S k → ¬ Ft N g s k) (h2 : ∀ k, S k → sv.ownBlock ≠ some k) (h3 : ¬ S g1) (h4 : ∀ k, S k → w.heap.size ≤ k) : RQ N w g s TL m g1 o1 us sv W' :=
  ⟨h.nn.kept fun k hk => fx.block k (h.nn.lt hk) (fun e => h1 k e hk), h.tm, h.inv, h.pos, row_at h.row fun k hk => fx.block k (h.row.lt k hk).2 (fun e => h2 k e hk), h.off, (fx.block g1 (some_lt h.lb) h3).trans h.lb, h.lo, h.ko, h.low, h.below.trans (fx.toBelow h.below.size fun j hj hf => by have := h4 j hf; omega)⟩
theorem HoldsC.blk {W W' : World} {g : Nat} {cs : List Value} (h : HoldsC W (some ⟨g, 0, none⟩) cs) {o : Obj} (h1 : W.heap[g]? = some o) (h2 : W'.heap[g]? = some o) : HoldsC W' (some ⟨g, 0, none⟩) cs := by
  intro j u hj
  obtain ⟨b, o', e, h3, h4⟩ := h j u hj
  simp only [Option.some.injEq, Addr.mk.injEq, and_true] at e
  obtain ⟨rfl, rfl⟩ := e
  refine ⟨g, 0, rfl, some_lt h2, ?_⟩
  unfold World.cell? at h4 ⊢
  rw [show W'.heap[(⟨g, 0 + j, none⟩ : Addr).block]? = some o from h2]
  rw [show W.heap[(⟨g, 0 + j, none⟩ : Addr).block]? = some o from h1] at h4
  exact h4
theorem jl_nil : jl [] = [] := rfl
theorem new_start : Rtd 1 [] (St.new 1 [] 0) ∧ (St.new 1 [] 0).Inv 1 ∧ (St.new 1 [] 0).Q = [] ∧ (St.new 1 [] 0).now = 0 ∧ (St.new 1 [] 0).frs = [] ∧ (St.new 1 [] 0).cms = [] ∧ (St.new 1 [] 0).drs = [] := by
  have e := finish_same (St.raw 1 [] 0)
  have hm := raw_mid (me := 1) (xs := []) (now := 0) ⟨by decide, by decide⟩ (fun x hx => by rw [jl_nil] at hx; cases hx) ⟨by decide, by decide⟩
  have hA : (St.raw 1 [] 0).A = [] := by
    show nwL 1 (cmpL (jl [])) = []
    rw [jl_nil]
    rfl
  have hs : (St.raw 1 [] 0).seq = 1 := by
    show gr ((owL (jl [])).getD 0) = 1
    rw [jl_nil]
    rfl
  have hi := inv_finish hm (by omega) rfl (fun y hy => by rw [hA] at hy; cases hy) (by rw [hA]; exact Nat.zero_le _)
  rw [St.new_eq]
  refine ⟨⟨e.me, e.A.trans hA, e.sil.trans rfl, e.seq.trans hs, ?_, e.pc.trans rfl⟩, hi, e.Q, e.now, e.frs, e.cms, e.drs⟩
  rw [e.lreq]
  exact u32_zero
theorem conv_bytes (s : ByteArray) (hs : s.size ≤ 65536) (w : World) : ∃ cap W, (convert 9 58 (.string s)).run Tryz.prog w = .ok (.slice (some ⟨w.heap.size, 0, none⟩) s.size cap) W ∧ Below w.heap.size w W ∧ RestV W (.slice (some ⟨w.heap.size, 0, none⟩) s.size cap) (strNums s) :=
  ⟨_, _, run_bytes_of_string (P := Tryz.prog) w 9 58 5 s Tryz.underlying9 Tryz.underlying58 Tryz.underlying5, (Below.refl w.heap.size w).drew.alloc (Nat.le_refl _) _, rest_new s hs w _⟩
theorem wait5 {nw wt : Int} (h : U64 wt) (h0 : 0 ≤ nw ∧ nw ≤ 1000000000000) : ∃ now, IntKind.u64.wrap (nw + wt.tmod 5000) = now ∧ nw ≤ now ∧ now ≤ nw + 5000 := by
  refine ⟨_, rfl, ?_⟩
  rw [Int.tmod_eq_emod_of_nonneg h.1]
  have h1 : 0 ≤ wt % 5000 := Int.emod_nonneg _ (by decide)
  have h2 : wt % 5000 < 5000 := Int.emod_lt_of_pos _ (by decide)
  simp only [IntKind.wrap, IntKind.signed, IntKind.bits]
  simp
  omega
/-- A list of asks in memory. -/
def AkC (L : List (Int × Int × Bool)) : List Value := L.flatMap fun x => [.int .u32 x.1, .int .u64 x.2.1, .bool x.2.2]
theorem AkC_length (L : List (Int × Int × Bool)) : (AkC L).length = L.length * 3 := by
  unfold AkC
  induction L with
  | nil => rfl
  | cons a L ih => simp [ih]; omega
theorem AkC_one (L : List (Int × Int × Bool)) : ∀ u ∈ AkC L, u.oneCell' = true := by
  intro u hu
  obtain ⟨x, _, hx⟩ := List.mem_flatMap.1 hu
  simp only [List.mem_cons, List.not_mem_nil, or_false] at hx
  rcases hx with rfl | rfl | rfl <;> rfl
theorem AkC_append (a b : List (Int × Int × Bool)) : AkC (a ++ b) = AkC a ++ AkC b := List.flatMap_append
theorem AkC_get {L : List (Int × Int × Bool)} {k : Nat} {x : Int × Int × Bool} (h : L[k]? = some x) : (AkC L)[k * 3]? = some (.int .u32 x.1) ∧ (AkC L)[k * 3 + 1]? = some (.int .u64 x.2.1) ∧ (AkC L)[k * 3 + 2]? = some (.bool x.2.2) := by
  have hat : ∀ i u, i < 3 → ([.int .u32 x.1, .int .u64 x.2.1, .bool x.2.2] : List Value)[i]? = some u → (AkC L)[k * 3 + i]? = some u := fun i u hi hu => (flat_at (fun x : Int × Int × Bool => ([.int .u32 x.1, .int .u64 x.2.1, .bool x.2.2] : List Value)) 3 (by decide) (fun _ => rfl) L k i hi h).trans hu
  exact ⟨hat 0 _ (by decide) rfl, hat 1 _ (by decide) rfl, hat 2 _ (by decide) rfl⟩
end Go.Proofs.YtakaadcpaeiccabGreat
