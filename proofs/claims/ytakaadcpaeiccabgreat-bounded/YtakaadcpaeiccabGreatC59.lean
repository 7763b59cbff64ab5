import Derived.Test.YtakaadcpaeiccabGreatC58
namespace Go.Proofs.YtakaadcpaeiccabGreat

/-! What holds along a step of a script: a law of induction. J: what holds as a node's frames P are still to go out. -/
abbrev Pend := List (Int × ByteArray)
abbrev MEv := Msh × List Ev
/-- What a node does is written. -/
structure WrJ (J : MEv → Pend → Prop) (i : Nat) (z : MEv) (P : Pend) (s : Stn) (o : Ot) : Prop where
  idle : o.idle = true → J (z.1.put i s, z.2) P
  whole : o.idle = false → (s.write o).2 = true → J (z.1.put i (s.write o).1, z.2 ++ [⟨i, 0, o⟩]) (o.frs ++ P)
  torn : o.idle = false → (s.write o).2 = false → J (z.1.put i (s.write o).1, z.2 ++ [⟨i, 0, Ot.none⟩]) P
structure DidJ (J : MEv → Pend → Prop) (i : Nat) : Prop where
  send : ∀ m e f P, J (m, e) (f :: P) → J (m.sendF i f, e) P
  brk : ∀ m e P f s z, J (m, e) (f :: P) → f.1 ≠ 0 → m.heard i f.1 = [] → (m.sendF i f).S[i]? = some s → s.nd = some z → WrJ J i (m.sendF i f, e) P { s with nd := some (z.brk m.now f.1) } (z.brk m.now f.1).ot
theorem didF_pre (φ : Msh → Int × ByteArray → Msh × List Ev) (a : List Ev) : ∀ (L : Pend) (m : Msh) (b : List Ev), L.foldl (didF φ) (m, a ++ b) = ((L.foldl (didF φ) (m, b)).1, a ++ (L.foldl (didF φ) (m, b)).2)
  | [], _, _ => rfl
  | f :: L, m, b => by
    rw [List.foldl_cons, List.foldl_cons]
    unfold didF
    dsimp only
    rw [List.append_assoc]
    exact didF_pre φ a L _ _
theorem foldJ {J : MEv → Pend → Prop} {φ : Msh → Int × ByteArray → Msh × List Ev} (hφ : ∀ m e f P, J (m, e) (f :: P) → J ((φ m f).1, e ++ (φ m f).2) P) : ∀ (L : Pend) (z : MEv) (P : Pend), J z (L ++ P) → J (L.foldl (didF φ) z) P
  | [], _, _, h => h
  | f :: L, z, P, h => by
    rw [List.foldl_cons]
    exact foldJ hφ L _ P (hφ z.1 z.2 f (L ++ P) h)
theorem put_put (m : Msh) (i : Nat) (s s' : Stn) : (m.put i s).put i s' = m.put i s' := by
  unfold Msh.put
  dsimp only
  rw [List.set_set]
theorem at_put {m : Msh} {i : Nat} (hi : i < m.S.length) (s : Stn) : (m.put i s).at' i = s := at_of (by rw [(put_S _ _ _).1, List.getElem?_set_self hi])
theorem didW_ind {J : MEv → Pend → Prop} {i : Nat} {φ : Msh → Int × ByteArray → Msh × List Ev} (hφ : ∀ m e f P, J (m, e) (f :: P) → J ((φ m f).1, e ++ (φ m f).2) P) {m : Msh} {e : List Ev} {P : Pend} {s : Stn} {o : Ot} (hi : i < m.S.length) (h : WrJ J i (m, e) P s o) : J (((m.put i s).didW φ i o).1, e ++ ((m.put i s).didW φ i o).2) P := by
  unfold Msh.didW
  rw [at_put hi, put_put]
  split
  · rename_i hd
    rw [List.append_nil]
    exact h.idle hd
  · rename_i hd
    have hd' : o.idle = false := by simpa using hd
    split
    · rename_i hw
      have h1 := foldJ hφ o.frs _ P (h.whole hd' hw)
      rw [didF_pre] at h1
      exact h1
    · rename_i hw
      exact h.torn hd' (by simpa using hw)
theorem did_ind {J : MEv → Pend → Prop} {i : Nat} (hJ : DidJ J i) {m : Msh} {e : List Ev} {P : Pend} {s : Stn} {o : Ot} (hi : i < m.S.length) (h : WrJ J i (m, e) P s o) : J (((m.put i s).did i o).1, e ++ ((m.put i s).did i o).2) P := by
  refine didW_ind (φ := Msh.out1 i) (fun m e f P hj => ?_) hi h
  have h1 := hJ.send m e f P hj
  unfold Msh.out1
  split
  · rw [List.append_nil]; exact h1
  · rename_i hne
    simp only [not_or, Classical.not_not] at hne
    split
    · rw [List.append_nil]; exact h1
    · rename_i z hz
      have hi2 : i < (m.sendF i f).S.length := by
        refine Nat.lt_of_not_le fun hle => ?_
        unfold Msh.at' at hz
        rw [List.getD_eq_getElem?_getD, List.getElem?_eq_none hle] at hz
        cases hz
      have hs := List.getElem?_eq_getElem hi2
      have hz' : ((m.sendF i f).S[i]).nd = some z := by rw [at_of hs] at hz; exact hz
      have h2 := hJ.brk m e P f _ z hj hne.2 hne.1 hs hz'
      rw [at_of hs]
      refine didW_ind (φ := Msh.out0 i) (fun m e f P hj => ?_) hi2 h2
      rw [show (Msh.out0 i m f).2 = [] from rfl, List.append_nil]
      exact hJ.send m e f P hj
/-- What is asked of an invariant of scripts; the first number: how many nodes may still do something. -/
structure StepJ (I : Nat → MEv → Prop) (J : Nat → Nat → MEv → Pend → Prop) (o : Op) : Prop where
  mono : ∀ k z, I (k + 1) z → I k z
  out : ∀ k i z, J k i z [] → I k z
  did : ∀ k i, DidJ (J k i) i
  evn : ∀ k0 m e a r, I k0 (m, e) → I k0 (m, e ++ [⟨a, r, Ot.none⟩])
  link : ∀ k0 m e (a b : Nat), a < m.S.length → b < m.S.length → o.dow = 1 → I k0 (m, e) → I k0 (m.link a b o.on, e)
  snd : ∀ m e (a b : Nat) s z, m.S[a]? = some s → s.nd = some z → b < m.S.length → o.dow = 2 → o.a = a → o.b = b → o.txt.size ≤ 16 → (m.at' b).addr ≠ z.me → (m.at' b).addr ≠ 0 → I 1 (m, e) → WrJ (J 0 a) a (m, e) [] { s with nd := some (z.snd m.now (m.at' b).addr o.txt) } (z.snd m.now (m.at' b).addr o.txt).ot
  tim : ∀ m e, 1 ≤ o.n → o.n ≤ 60000 → o.dow = 3 → I (m.S.length + 1) (m, e) → I m.S.length ({ m with now := m.now + o.n }, e)
  tck : ∀ k0 m e (i : Nat) s z, m.S[i]? = some s → s.nd = some z → o.dow = 3 → I (k0 + 1) (m, e) → WrJ (J k0 i) i (m, e) [] { s with nd := some (z.tck m.now) } (z.tck m.now).ot
  land : ∀ k0 m e (k : Nat) f, m.air[k]? = some f → o.dow = 4 ∨ o.dow = 5 → I k0 (m, e) → I k0 ({ m with air := m.air.eraseIdx k }, e)
  rcv : ∀ k0 m e (k : Nat) f s z, m.air[k]? = some f → m.S[f.2.1]? = some s → s.nd = some z → o.dow = 4 → I (k0 + 1) (m, e) → WrJ (J k0 f.2.1) f.2.1 ({ m with air := m.air.eraseIdx k }, e) [] { s with nd := some (z.rcv m.now (m.at' f.1).addr (strNums f.2.2)) } (z.rcv m.now (m.at' f.1).addr (strNums f.2.2)).ot
  twice : ∀ k0 m e (k : Nat) f, m.air[k]? = some f → o.dow = 6 → I k0 (m, e) → I k0 (m.launch f, e)
  cut : ∀ k0 m e (k : Nat) f n, m.air[k]? = some f → o.dow ≠ 1 → n ≤ f.2.2.size → I k0 (m, e) → I k0 ({ m with air := m.air.set k (f.1, f.2.1, f.2.2.extract 0 n) }, e)
  inj : ∀ k0 m e (a b : Nat) s z, m.S[a]? = some s → s.nd = some z → b < m.S.length → o.dow = 8 → I (k0 + 1) (m, e) → WrJ (J k0 a) a (m, e) [] { s with nd := some (z.rcv m.now (m.at' b).addr (strNums o.txt)) } (z.rcv m.now (m.at' b).addr (strNums o.txt)).ot
  stop : ∀ k0 m e (a : Nat) s, m.S[a]? = some s → I k0 (m, e) → I k0 (m.put a s.stop, e)
  tear : ∀ k0 m e (a : Nat) s n, m.S[a]? = some s → I k0 (m, e) → I k0 (m.put a { s with tears := true, whole := max 0 n }, e)
  boot : ∀ k0 m e (a : Nat) s, m.S[a]? = some s → s.nd = none → I (k0 + 1) (m, e) → WrJ (J k0 a) a (m, e) [] { s with nd := some (St.new s.addr s.jrn m.now) } (St.new s.addr s.jrn m.now).ot
theorem act_ind {I : Nat → MEv → Prop} {J : Nat → Nat → MEv → Pend → Prop} {o : Op} (h : StepJ I J o) {k0 : Nat} {m : Msh} {e : List Ev} {i : Nat} {s : Stn} {z : St} (hs : m.S[i]? = some s) (hw : WrJ (J k0 i) i (m, e) [] { s with nd := some z } z.ot) : I k0 ((m.act i z).1, e ++ (m.act i z).2) := by
  rw [act_eq hs]
  exact h.out k0 i _ (did_ind (h.did k0 i) (List.getElem?_eq_some_iff.1 hs).1 hw)
theorem tick_ind {I : Nat → MEv → Prop} {J : Nat → Nat → MEv → Pend → Prop} {o : Op} (h : StepJ I J o) (ho : o.dow = 3) (e : List Ev) : ∀ (l : List Nat) (z : MEv), I l.length (z.1, e ++ z.2) → I 0 ((l.foldl Msh.tick1 z).1, e ++ (l.foldl Msh.tick1 z).2)
  | [], _, hz => hz
  | i :: l, z, hz => by
    rw [List.foldl_cons]
    refine tick_ind h ho e l _ ?_
    rw [List.length_cons] at hz
    unfold Msh.tick1
    split
    · exact h.mono _ _ hz
    · rename_i s hs
      have hi2 : i < z.1.S.length := by
        refine Nat.lt_of_not_le fun hle => ?_
        unfold Msh.at' at hs
        rw [List.getD_eq_getElem?_getD, List.getElem?_eq_none hle] at hs
        cases hs
      have hu := List.getElem?_eq_getElem hi2
      have hs' : (z.1.S[i]).nd = some s := by rw [at_of hu] at hs; exact hs
      have h1 := act_ind h hu (h.tck _ z.1 (e ++ z.2) i _ s hu hs' ho hz)
      dsimp only
      rw [← List.append_assoc]
      exact h1
theorem hear_none {m : Msh} {i j : Nat} {b : ByteArray} (h : (m.at' i).nd = none) : m.hear i j b = (m, []) := by
  unfold Msh.hear
  rw [h]
theorem hear_some {m : Msh} {i j : Nat} {b : ByteArray} {s : St} (h : (m.at' i).nd = some s) : m.hear i j b = m.act i (s.rcv m.now (m.at' j).addr (strNums b)) := by
  unfold Msh.hear
  rw [h]
theorem step_ind {I : Nat → MEv → Prop} {J : Nat → Nat → MEv → Pend → Prop} {o : Op} (h : StepJ I J o) {m : Msh} {e : List Ev} (hfl : ∀ f ∈ m.air, f.2.1 < m.S.length) {n : Nat} (hn : m.S.length + 1 ≤ n) (hIn : I n (m, e)) : I 0 ((m.step o).1, e ++ (m.step o).2) := by
  have hdown : ∀ (k j : Nat) (z : MEv), I (k + j) z → I k z := by
    intro k j
    induction j with
    | zero => exact fun z h => h
    | succ j ih => exact fun z hz => ih z (h.mono _ _ hz)
  have hI : I 0 (m, e) := hdown 0 n _ (by rw [Nat.zero_add]; exact hIn)
  have hI1 : I (0 + 1) (m, e) := hdown 1 (n - 1) _ (by rw [show 1 + (n - 1) = n by omega]; exact hIn)
  have hIS : I (m.S.length + 1) (m, e) := hdown _ (n - (m.S.length + 1)) _ (by rw [show m.S.length + 1 + (n - (m.S.length + 1)) = n by omega]; exact hIn)
  unfold Msh.step
  split
  · exact h.evn _ _ _ _ _ hI
  rename_i hmay
  have hmay' : m.may o = true := by simpa using hmay
  unfold Msh.may at hmay'
  split
  · rename_i h1
    rw [if_pos h1, Bool.and_eq_true] at hmay'
    obtain ⟨i, hi, hil⟩ := has_nat hmay'.1
    obtain ⟨j, hj, hjl⟩ := has_nat hmay'.2
    rw [hi, hj, Int.toNat_natCast, Int.toNat_natCast, List.append_nil]
    exact h.link _ m e i j hil hjl h1 hI
  rename_i h1
  rw [if_neg h1] at hmay'
  split
  · rename_i h2
    rw [if_pos (.inl h2), Bool.and_eq_true] at hmay'
    obtain ⟨i, hi, hil⟩ := runs_nat hmay'.1
    obtain ⟨j, hj, hjl⟩ := has_nat hmay'.2
    rw [hi, hj, Int.toNat_natCast, Int.toNat_natCast]
    have hs := List.getElem?_eq_getElem hil
    unfold Msh.send
    rw [at_of hs]
    split
    · rw [List.append_nil]; exact hI
    · rename_i z hz
      split
      · exact h.evn _ _ _ _ _ hI
      · rename_i hsz
        split
        · exact h.evn _ _ _ _ _ hI
        · rename_i hd
          simp only [not_or] at hd
          exact act_ind h hs (h.snd m e i j _ z hs hz hjl h2 hi hj (by omega) hd.1 hd.2 hI1)
  rename_i h2
  split
  · rename_i h3
    unfold Msh.tick
    split
    · rw [List.append_nil]; exact hI
    · rename_i hn
      simp only [not_or] at hn
      refine tick_ind h h3 e _ _ ?_
      rw [List.append_nil, List.length_range]
      exact h.tim m e (by omega) (by omega) h3 hIS
  rename_i h3
  split
  · rename_i h4
    unfold Msh.flight
    split
    · rw [List.append_nil]; exact hI
    · rename_i hn
      simp only [not_or] at hn
      dsimp only
      have hk : o.a.toNat % m.air.length < m.air.length := Nat.mod_lt _ (by omega)
      generalize o.a.toNat % m.air.length = k at hk
      obtain ⟨f, hf⟩ : ∃ f, m.air[k]? = some f := ⟨_, List.getElem?_eq_getElem hk⟩
      have hgd : m.air.getD k (0, 0, ⟨#[]⟩) = f := by rw [List.getD_eq_getElem?_getD, hf]; rfl
      rw [hgd]
      have hfl' := hfl f (List.mem_of_getElem? hf)
      split
      · rename_i h5
        have hs := List.getElem?_eq_getElem hfl'
        have ha : ({ m with air := m.air.eraseIdx k } : Msh).at' f.2.1 = m.S[f.2.1] := at_of (m := { m with air := m.air.eraseIdx k }) hs
        cases hz : (m.S[f.2.1]).nd with
        | none =>
          rw [hear_none (by rw [ha]; exact hz), List.append_nil]
          exact h.land _ m e k f hf (.inl h5) hI
        | some z =>
          rw [hear_some (by rw [ha]; exact hz)]
          exact act_ind (m := { m with air := m.air.eraseIdx k }) h hs (h.rcv _ m e k f _ z hf hs hz h5 hI1)
      · split
        · rename_i h5 h6
          rw [List.append_nil]
          exact h.land _ m e k f hf (.inr h6) hI
        · split
          · rename_i h6
            rw [List.append_nil]
            exact h.twice _ m e k f hf h6 hI
          · rw [List.append_nil]
            exact h.cut _ m e k f _ hf h1 (Nat.sub_le _ _) hI
  rename_i h4
  split
  · rename_i h8
    rw [if_pos (.inr h8), Bool.and_eq_true] at hmay'
    obtain ⟨i, hi, hil⟩ := runs_nat hmay'.1
    obtain ⟨j, hj, hjl⟩ := has_nat hmay'.2
    rw [hi, hj, Int.toNat_natCast, Int.toNat_natCast]
    have hs := List.getElem?_eq_getElem hil
    cases hz : (m.S[i]).nd with
    | none =>
      rw [hear_none (by rw [at_of hs]; exact hz), List.append_nil]
      exact hI
    | some z =>
      rw [hear_some (by rw [at_of hs]; exact hz)]
      exact act_ind h hs (h.inj _ m e i j _ z hs hz hjl h8 hI1)
  rename_i h8
  rw [if_neg (by simp [h2, h8])] at hmay'
  split
  · rename_i h9
    rw [if_pos (.inl h9)] at hmay'
    obtain ⟨i, hi, hil⟩ := runs_nat hmay'
    rw [hi, Int.toNat_natCast, List.append_nil, at_of (List.getElem?_eq_getElem hil)]
    exact h.stop _ m e i _ (List.getElem?_eq_getElem hil) hI
  rename_i h9
  split
  · rename_i h10
    rw [if_pos (.inr h10)] at hmay'
    obtain ⟨i, hi, hil⟩ := runs_nat hmay'
    rw [hi, Int.toNat_natCast, List.append_nil, at_of (List.getElem?_eq_getElem hil)]
    exact h.tear _ m e i _ _ (List.getElem?_eq_getElem hil) hI
  rename_i h10
  split
  · rename_i h11
    rw [if_neg (by simp [h9, h10]), if_pos h11, Bool.and_eq_true] at hmay'
    obtain ⟨i, hi, hil⟩ := has_nat hmay'.1
    rw [hi, Int.toNat_natCast]
    have hs := List.getElem?_eq_getElem hil
    unfold Msh.boot
    rw [at_of hs]
    have hz : (m.S[i]).nd = none := by
      have h2 := hmay'.2
      unfold Msh.runs at h2
      rw [hi, Int.toNat_natCast, at_of hs] at h2
      have h3 : m.has (i : Int) = true := by
        unfold Msh.has
        simp
        omega
      rw [h3] at h2
      simpa using h2
    exact act_ind h hs (h.boot _ m e i _ hs hz hI1)
  · rw [List.append_nil]; exact hI
end Go.Proofs.YtakaadcpaeiccabGreat

namespace Go.Proofs.YtakaadcpaeiccabGreat

/-! What each running node keeps besides; what is under way stays such that it may be heard. -/
/-- No line leads to oneself; a line that is not valid is used by no one. -/
def TbK (me : Int) (A : List Rt) : Prop := ∀ y ∈ A, y.dest ≠ me ∧ (y.valid = false → y.bef = [])
theorem tbk_map {me : Int} {A : List Rt} {f : Rt → Rt} (h : TbK me A) (hf : ∀ y, (f y).dest = y.dest ∧ ((y.valid = false → y.bef = []) → (f y).valid = false → (f y).bef = [])) : TbK me (A.map f) := by
  intro y hy
  obtain ⟨z, hz, rfl⟩ := List.mem_map.1 hy
  obtain ⟨h1, h2⟩ := h z hz
  obtain ⟨e1, e2⟩ := hf z
  exact ⟨by rw [e1]; exact h1, e2 h2⟩
theorem tbk_mod {me : Int} {A : List Rt} {f : Rt → Rt} {d : Int} (h : TbK me A) (hf : ∀ y, (f y).dest = y.dest ∧ ((y.valid = false → y.bef = []) → (f y).valid = false → (f y).bef = [])) : TbK me (modL A d f) := by
  refine tbk_map h fun y => ?_
  split
  · exact hf y
  · exact ⟨rfl, fun h => h⟩
theorem tbk_upd {me : Int} {A : List Rt} (h : TbK me A) (d q hp n e : Int) : TbK me (updL me A d q hp n e).1 := by
  unfold updL
  split
  · exact h
  · rename_i hd
    simp only [not_or] at hd
    split
    · split
      · exact tbk_mod h fun y => ⟨rfl, fun _ h => by cases h⟩
      · exact h
    · split
      · exact h
      · intro y hy
        unfold insL at hy
        rcases List.mem_append.1 hy with hy | hy
        · exact h y (List.mem_of_mem_take hy)
        · rcases List.mem_cons.1 hy with rfl | hy
          · exact ⟨hd.1, fun h => by cases h⟩
          · exact h y (List.mem_of_mem_drop hy)
theorem tbk_loseF (fr q : Int) (y : Rt) : (loseF fr q y).dest = y.dest ∧ ((y.valid = false → y.bef = []) → (loseF fr q y).valid = false → (loseF fr q y).bef = []) := by
  refine ⟨loseF_dest _ _ y, ?_⟩
  unfold loseF
  split
  · exact fun _ _ => rfl
  · exact fun h => h
theorem tbk_exp {me : Int} {A : List Rt} (h : TbK me A) (now : Int) : TbK me (expL A now) := by
  refine tbk_map h fun y => ⟨expF_dest now y, ?_⟩
  unfold expF
  split
  · exact fun _ _ => rfl
  · exact fun h => h
theorem tbk_top {me now : Int} {c : Hrd} {A A' : List Rt} (t : TOp me now c A A') (h : TbK me A) : TbK me A' := by
  cases t with
  | upd1 => exact tbk_upd h _ _ _ _ _
  | upd2 => exact tbk_upd h _ _ _ _ _
  | use d e =>
    refine tbk_mod h fun y => ⟨useF_dest e y, ?_⟩
    unfold useF
    split
    · rename_i hv
      exact fun _ h => by
        dsimp only at h
        rw [hv] at h
        cases h
    · exact fun h => h
  | bef d n =>
    refine tbk_mod h fun y => ⟨befF_dest n y, ?_⟩
    unfold befF
    split
    · rename_i hv
      exact fun _ h => by
        dsimp only at h
        rw [hv.1] at h
        cases h
    · exact fun h => h
  | lose fr p L hc x hx => exact tbk_mod h fun y => tbk_loseF fr x.2 y
  | brk nxt => exact tbk_map h fun y => tbk_loseF nxt 0 y
  | grow d _ => exact tbk_mod h fun y => ⟨rfl, fun h => h⟩
theorem tbk_pr {c : Hrd} {s s' : St} (k : Pr c s s') (h : TbK s.me s.A) : TbK s'.me s'.A := by
  cases k with
  | oth e => rw [e.me, e.A]; exact h
  | tab t => exact tbk_top t h
  | frm _ _ _ _ _ => exact h
  | grw => exact h
  | mx _ _ _ _ => exact h
  | wr => exact h
theorem tbk_prs {c : Hrd} {n : Nat} {s s' : St} (k : Prs c n s s') (h : TbK s.me s.A) : TbK s'.me s'.A := by
  induction k with
  | nil => exact h
  | snoc _ k ih => exact tbk_pr k (ih h)
theorem tbk_call {c : Hrd} {n : Nat} {s s' : St} {now : Int} (k : Prs c n (s.locked.begin now) s') (h : TbK s.me s.A) : TbK s'.finish.freed.me s'.finish.freed.A := by
  have h1 : TbK (s.locked.begin now).me (s.locked.begin now).A := tbk_exp h now
  have h2 := tbk_prs k h1
  have e := finish_same s'
  show TbK s'.finish.me s'.finish.A
  rw [e.me, e.A]
  exact h2
structure NK (z : St) : Prop where
  srs : SrsOk z
  tb : TbK z.me z.A
theorem fin_srs {s : St} (h : SrsOk s) : SrsOk s.finish.freed := by
  intro q hq
  have e := (finish_same s).Q
  have hq' : q ∈ s.finish.Q := hq
  rw [e] at hq'
  exact h q hq'
theorem NK.rcv {z : St} (h : NK z) (now fr : Int) (xs : List Int) (hb : ∀ x ∈ xs, 0 ≤ x ∧ x ≤ 255) : NK (z.rcv now fr xs) ∧ FrSz (z.rcv now fr xs).frs := by
  have h4 : ∀ q ∈ z.Q, q.txt.length ≤ 4 := fun q hq => (h.srs q hq).1
  obtain ⟨n, s', h1, h2⟩ := rcv_prs z now fr xs h4
  refine ⟨⟨fin_srs (s := (z.locked.begin now).hear fr xs) fun q hq => h.srs q ((eff_hear (z.locked.begin now) fr xs hb h4).qs q hq), ?_⟩, ?_⟩
  · rw [h2]; exact tbk_call h1 h.tb
  · rw [h2]; exact frs_call h1
theorem NK.brk {z : St} (h : NK z) (now nxt : Int) : NK (z.brk now nxt) ∧ FrSz (z.brk now nxt).frs := by
  obtain ⟨s', h1, h2⟩ := brk_prs z now nxt
  refine ⟨⟨fun q hq => ?_, ?_⟩, ?_⟩
  · rw [(brk_rest z now nxt).2.2] at hq
    exact h.srs q hq
  · rw [h2]; exact tbk_call h1 h.tb
  · rw [h2]; exact frs_call h1
theorem srs_steps : ∀ (D : List Sr) (s : St), (∀ q ∈ D, q.txt.length ≤ 4 ∧ 1 ≤ q.ttl ∧ q.ttl ≤ 8) → SrsOk s → SrsOk (D.foldl St.step s)
  | [], _, _, h => h
  | q :: D, s, hD, h => by
    rw [List.foldl_cons]
    exact srs_steps D _ (fun z hz => hD z (List.mem_cons_of_mem _ hz)) (qok_step h (hD q List.mem_cons_self))
theorem NK.tck {z : St} (h : NK z) (now : Int) : NK (z.tck now) ∧ FrSz (z.tck now).frs := by
  obtain ⟨s', h1, h2⟩ := tck_prs z now h.srs
  refine ⟨⟨fin_srs (s := (St.dueQ z.Q now).foldl St.step (z.locked.begin now)) (srs_steps _ _ (fun q hq => h.srs q (dueQ_mem hq)) h.srs), ?_⟩, ?_⟩
  · rw [h2]; exact tbk_call h1 h.tb
  · rw [h2]; exact frs_call h1
theorem srs_await {s : St} (h : SrsOk s) (d : Int) (t : ByteArray) : SrsOk (s.await d t) := by
  unfold St.await
  split
  · rename_i q hq
    have hq4 := h q (srOf_some hq).1
    intro z hz
    have hz' : z ∈ St.setQ s.Q (s.hold q t).2 := hz
    rcases setQ_mem hz' with rfl | ⟨k, _⟩
    · unfold St.hold
      split
      · rename_i e
        dsimp only
        rw [List.length_append, List.length_tail, List.length_singleton]
        exact ⟨by omega, hq4.2⟩
      · dsimp only
        rw [List.length_append, List.length_singleton]
        exact ⟨by omega, hq4.2⟩
    · exact h z k
  · refine qok_ask (fun z hz => ?_) ⟨by simp [St.newQ], by show (1 : Int) ≤ 1 ∧ (1 : Int) ≤ 8; omega⟩
    rcases List.mem_append.1 hz with hz | hz
    · exact h z hz
    · rw [List.mem_singleton] at hz
      subst hz
      exact ⟨by simp [St.newQ], by show (1 : Int) ≤ 1 ∧ (1 : Int) ≤ 8; omega⟩
theorem NK.snd {z : St} (h : NK z) (now d : Int) (t : ByteArray) : NK (z.snd now d t) ∧ FrSz (z.snd now d t).frs := by
  obtain ⟨n, s', h1, h2⟩ := snd_prs z now d t
  refine ⟨⟨fin_srs (s := if (findL (z.locked.begin now).A d (z.locked.begin now).now).2 then (z.locked.begin now).sendText d t else (z.locked.begin now).await d t) ?_, ?_⟩, ?_⟩
  · split
    · intro q hq
      rw [(sendText_same _ _ _).1] at hq
      exact h.srs q hq
    · exact srs_await (s := z.locked.begin now) h.srs d t
  · rw [h2]; exact tbk_call h1 h.tb
  · rw [h2]; exact frs_call h1
theorem nk_new (me : Int) (xs : List Int) (now : Int) : NK (St.new me xs now) ∧ (St.new me xs now).frs = [] := by
  have e := finish_same (St.raw me xs now)
  rw [St.new_eq]
  refine ⟨⟨fun q hq => ?_, ?_⟩, e.frs⟩
  · rw [e.Q] at hq
    cases hq
  · rw [e.me, e.A]
    have e2 : (St.raw me xs now).A = nwL me ((cmpL (jl xs)).take (cmpL (jl xs)).length) := by rw [List.take_length]; rfl
    rw [e2]
    intro y hy
    obtain ⟨j, x, _, hj, hp, rfl⟩ := nwL_mem _ _ _ y hy
    unfold nwP at hp
    simp only [Bool.and_eq_true, bne_iff_ne] at hp
    exact ⟨hp.2, fun _ => rfl⟩
/-- All running nodes are such. -/
def NKs (m : Msh) : Prop := ∀ (i : Nat) s z, m.S[i]? = some s → s.nd = some z → NK z
theorem NKs.put {m : Msh} (h : NKs m) (i : Nat) {s : Stn} (hs : ∀ z, s.nd = some z → NK z) : NKs (m.put i s) := by
  intro j u z hj hz
  rw [(put_S _ _ _).1] at hj
  rcases set_cases hj with ⟨_, rfl⟩ | ⟨_, hj⟩
  · exact hs z hz
  · exact h j u z hj hz
theorem NKs.S {m m' : Msh} (h : NKs m) (e : m'.S = m.S) : NKs m' := fun i s z hs hz => h i s z (by rw [← e]; exact hs) hz
theorem write_nd (s : Stn) (o : Ot) : (∀ z, (s.write o).1.nd = some z → s.nd = some z) ∧ ((s.write o).2 = true → (s.write o).1.nd = s.nd) ∧ (s.write o).1.addr = s.addr ∧ (s.write o).1.hrs = s.hrs := by
  unfold Stn.write
  split
  · exact ⟨fun _ h => h, fun _ => rfl, rfl, rfl⟩
  · split
    · exact ⟨fun _ h => (by cases h), fun h => (by cases h), rfl, rfl⟩
    · exact ⟨fun _ h => h, fun _ => rfl, rfl, rfl⟩
def FK (m : Msh) : Prop := FlOk m ∧ NKs m
def FKJ (i : Nat) (z : MEv) (P : Pend) : Prop := FK z.1 ∧ i < z.1.S.length ∧ FrSz P
theorem fk_wr {i : Nat} {m : Msh} {e : List Ev} {P : Pend} {s : Stn} {z : St} (h : FKJ i (m, e) P) (hz : NK z) (hf : FrSz z.frs) : WrJ (FKJ i) i (m, e) P { s with nd := some z } z.ot := by
  have hl : ∀ s : Stn, i < (m.put i s).S.length := fun s => by rw [(put_S _ _ _).1, List.length_set]; exact h.2.1
  have hnk : NKs (m.put i (Stn.write { s with nd := some z } z.ot).1) := h.1.2.put i fun u hu => by
    have h1 := (write_nd { s with nd := some z } z.ot).1 u hu
    cases h1
    exact hz
  refine ⟨fun _ => ⟨⟨h.1.1.put i _, h.1.2.put i fun u hu => ?_⟩, hl _, h.2.2⟩, fun _ _ => ⟨⟨h.1.1.put i _, hnk⟩, hl _, fun f hf' => ?_⟩, fun _ _ => ⟨⟨h.1.1.put i _, hnk⟩, hl _, h.2.2⟩⟩
  · cases hu
    exact hz
  · rcases List.mem_append.1 hf' with h1 | h1
    · exact hf f h1
    · exact h.2.2 f h1
theorem fk_did (i : Nat) : DidJ (FKJ i) i := by
  have hse : ∀ m e f P, FKJ i (m, e) (f :: P) → FKJ i (m.sendF i f, e) P := fun m e f P h => by
    have e1 := (sendF_S m i f).1
    exact ⟨⟨h.1.1.sendF h.2.1 (h.2.2 f List.mem_cons_self), h.1.2.S e1⟩, by show i < (m.sendF i f).S.length; rw [e1]; exact h.2.1, fun g hg => h.2.2 g (List.mem_cons_of_mem _ hg)⟩
  refine ⟨hse, fun m e P f s z h _ _ hs hz => ?_⟩
  have h' := hse m e f P h
  obtain ⟨h1, h2⟩ := (h'.1.2 i s z hs hz).brk m.now f.1
  exact fk_wr h' h1 h2
theorem sub_ext (b : ByteArray) (n : Nat) (hn : n ≤ b.size) : (b.extract 0 n).size ≤ b.size := by
  rw [ByteArray.size_extract]
  omega
theorem fk_step (o : Op) : StepJ (fun _ z => FK z.1) (fun _ => FKJ) o := by
  have hin : ∀ i m e, i < m.S.length → FK m → FKJ i (m, e) [] := fun i m e hi h => ⟨h, hi, fun f hf => (by cases hf)⟩
  have hlt : ∀ {m : Msh} {i : Nat} {s : Stn}, m.S[i]? = some s → i < m.S.length := fun h => (List.getElem?_eq_some_iff.1 h).1
  refine ⟨fun _ _ h => h, fun _ i z h => h.1, fun _ => fk_did, fun _ m e a r h => h, ?_, ?_, fun m e _ _ _ h => h, ?_, ?_, ?_, ?_, ?_, ?_, ?_, ?_, ?_⟩
  · intro _ m e a b ha hb _ h
    show FK (m.link a b o.on)
    unfold Msh.link
    split
    · exact h
    · have hk : ∀ (m : Msh) (c : Nat) (L : List Bool), NKs m → NKs (m.put c { m.at' c with hrs := L }) := fun m c L hm => hm.put c fun z hz => by
        by_cases hc : c < m.S.length
        · have hs := List.getElem?_eq_getElem hc
          rw [at_of hs] at hz
          exact hm c _ z hs hz
        · unfold Msh.at' at hz
          rw [List.getD_eq_getElem?_getD, List.getElem?_eq_none (by omega)] at hz
          cases hz
      exact ⟨(h.1.put a _).put b _, hk _ b _ (hk m a _ h.2)⟩
  · intro m e a b s z hs hz hb _ _ _ _ _ _ h
    obtain ⟨h1, h2⟩ := (h.2 a s z hs hz).snd m.now (m.at' b).addr o.txt
    exact fk_wr (hin a m e (hlt hs) h) h1 h2
  · intro _ m e i s z hs hz _ h
    obtain ⟨h1, h2⟩ := (h.2 i s z hs hz).tck m.now
    exact fk_wr (hin i m e (hlt hs) h) h1 h2
  · intro _ m e k f hf _ h
    exact ⟨fun g hg => h.1 g (List.mem_of_mem_eraseIdx hg), h.2⟩
  · intro _ m e k f s z hf hs hz _ h
    obtain ⟨h1, h2⟩ := (h.2 f.2.1 s z hs hz).rcv m.now (m.at' f.1).addr (strNums f.2.2) (strNums_b _)
    exact fk_wr (hin f.2.1 { m with air := m.air.eraseIdx k } e (hlt hs) ⟨fun g hg => h.1 g (List.mem_of_mem_eraseIdx hg), h.2⟩) h1 h2
  · intro _ m e k f hf _ h
    obtain ⟨h1, h2, h3⟩ := h.1 f (List.mem_of_getElem? hf)
    exact ⟨h.1.launch (i := f.1) (j := f.2.1) (b := f.2.2) h1 h2 h3, h.2⟩
  · intro _ m e k f n hf _ hn h
    obtain ⟨h1, h2, h3⟩ := h.1 f (List.mem_of_getElem? hf)
    refine ⟨fun g hg => ?_, h.2⟩
    rcases List.mem_or_eq_of_mem_set hg with hg | rfl
    · exact h.1 g hg
    · exact ⟨h1, h2, Nat.le_trans (sub_ext _ _ hn) h3⟩
  · intro _ m e a b s z hs hz hb _ h
    obtain ⟨h1, h2⟩ := (h.2 a s z hs hz).rcv m.now (m.at' b).addr (strNums o.txt) (strNums_b _)
    exact fk_wr (hin a m e (hlt hs) h) h1 h2
  · intro _ m e a s hs h
    exact ⟨h.1.put a _, h.2.put a fun z hz => by cases hz⟩
  · intro _ m e a s n hs h
    exact ⟨h.1.put a _, h.2.put a fun z hz => h.2 a s z hs hz⟩
  · intro _ m e a s hs _ h
    obtain ⟨h1, h2⟩ := nk_new s.addr s.jrn m.now
    exact fk_wr (hin a m e (hlt hs) h) h1 (by rw [h2]; exact fun f hf => by cases hf)
theorem FK.step {m : Msh} (h : FK m) (o : Op) : FK (m.step o).1 := step_ind (fk_step o) (e := []) (fun f hf => (h.1 f hf).2.1) (n := m.S.length + 1) (Nat.le_refl _) h
theorem fk_new {L : List Int} (hn : L.length ≤ 6) (hU : ∀ a ∈ L, U32 a) (h0 : ∀ a ∈ L, a ≠ 0) : FK (Msh.new L) := by
  refine ⟨(new_mok hn hU h0).2, fun i s z hs hz => ?_⟩
  obtain ⟨a, _, rfl⟩ := List.mem_map.1 (List.mem_of_getElem? (show (L.map fun a => (⟨a, flatR (St.new a [] 0).nws, some (St.new a [] 0), List.replicate 6 false, false, 0⟩ : Stn))[i]? = some s from hs))
  cases hz
  exact (nk_new a [] 0).1
end Go.Proofs.YtakaadcpaeiccabGreat

namespace Go.Proofs.YtakaadcpaeiccabGreat
open Go.RowKit Go.Maps

/-! Scripts: what holds of a mesh from step to step. -/
/-- The addresses, and the time. -/
def SKI (A : List Int) (N : Int) (k : Nat) (z : MEv) : Prop := z.1.S.map (·.addr) = A ∧ z.1.now ≤ N + (if k ≤ A.length then 60000 else 0)
theorem map_set_addr {S : List Stn} {i : Nat} {s s' : Stn} (hs : S[i]? = some s) (e : s'.addr = s.addr) : (S.set i s').map (·.addr) = S.map (·.addr) := by
  rw [List.map_set]
  refine List.ext_getElem? fun j => ?_
  by_cases hj : j = i
  · subst hj
    have hl := (List.getElem?_eq_some_iff.1 hs).1
    rw [List.getElem?_set_self (by rw [List.length_map]; exact hl), List.getElem?_map, hs, e]
    rfl
  · rw [List.getElem?_set_ne (fun h => hj h.symm)]
theorem ski_put {A : List Int} {N : Int} {k : Nat} {m : Msh} {e e' : List Ev} (h : SKI A N k (m, e)) {i : Nat} {s s' : Stn} (hs : m.S[i]? = some s) (ha : s'.addr = s.addr) : SKI A N k (m.put i s', e') := ⟨(map_set_addr hs ha).trans h.1, h.2⟩
theorem ski_wr {A : List Int} {N : Int} {k i : Nat} {m : Msh} {e : List Ev} {P : Pend} {s s' : Stn} {o : Ot} (h : SKI A N k (m, e)) (hs : m.S[i]? = some s) (ha : s'.addr = s.addr) : WrJ (fun z _ => SKI A N k z) i (m, e) P s' o := by
  have hw := (write_nd s' o).2.2.1
  exact ⟨fun _ => ski_put h hs ha, fun _ _ => ski_put h hs (hw.trans ha), fun _ _ => ski_put h hs (hw.trans ha)⟩
theorem ski_mono {A : List Int} {N : Int} {k : Nat} {z : MEv} (h : SKI A N (k + 1) z) : SKI A N k z := by
  refine ⟨h.1, Int.le_trans h.2 ?_⟩
  split <;> split <;> omega
theorem ski_step (A : List Int) (N : Int) (o : Op) : StepJ (SKI A N) (fun k _ z _ => SKI A N k z) o := by
  refine ⟨fun k z h => ski_mono h, fun k i z h => h, fun k i => ⟨fun m e f P h => ?_, fun m e P f s z h _ _ hs hz => ?_⟩, fun _ m e a r h => h, ?_, ?_, ?_, ?_, ?_, ?_, ?_, ?_, ?_, ?_, ?_, ?_⟩
  · have e := sendF_S m i f
    exact ⟨by rw [e.1]; exact h.1, by show (m.sendF i f).now ≤ _; rw [e.2]; exact h.2⟩
  · have e1 := sendF_S m i f
    refine ski_wr ⟨?_, ?_⟩ hs rfl
    · rw [e1.1]; exact h.1
    · show (m.sendF i f).now ≤ _; rw [e1.2]; exact h.2
  · intro k0 m e a b ha hb _ h
    unfold Msh.link
    split
    · exact h
    · have hsa := List.getElem?_eq_getElem ha
      have hb' : b < (m.put a { m.at' a with hrs := (m.at' a).hrs.set b o.on }).S.length := by rw [(put_S _ _ _).1, List.length_set]; exact hb
      have hsb := List.getElem?_eq_getElem hb'
      exact ski_put (ski_put (e' := e) h hsa (by rw [at_of hsa])) hsb (by rw [at_of hsb])
  · intro m e a b s z hs _ _ _ _ _ _ _ _ h
    exact ski_wr (ski_mono h) hs rfl
  · intro m e h1 h2 _ h
    have hl : m.S.length = A.length := by rw [← h.1, List.length_map]
    refine ⟨h.1, ?_⟩
    have h3 := h.2
    rw [if_neg (by omega)] at h3
    rw [if_pos (by omega)]
    show m.now + o.n ≤ _
    dsimp only at h3
    omega
  · intro k0 m e i s z hs _ _ h
    exact ski_wr (ski_mono h) hs rfl
  · intro k0 m e k f _ _ h
    exact h
  · intro k0 m e k f s z _ hs _ _ h
    have h' := ski_mono h
    exact ski_wr (m := { m with air := m.air.eraseIdx k }) ⟨h'.1, h'.2⟩ hs rfl
  · intro k0 m e k f _ _ h
    exact h
  · intro k0 m e k f n _ _ _ h
    exact h
  · intro k0 m e a b s z hs _ _ _ h
    exact ski_wr (ski_mono h) hs rfl
  · intro k0 m e a s hs h
    exact ski_put h hs rfl
  · intro k0 m e a s n hs h
    exact ski_put h hs rfl
  · intro k0 m e a s hs _ h
    exact ski_wr (ski_mono h) hs rfl
theorem step_sk {m : Msh} (hfl : ∀ f ∈ m.air, f.2.1 < m.S.length) (o : Op) : (m.step o).1.S.map (·.addr) = m.S.map (·.addr) ∧ (m.step o).1.now ≤ m.now + 60000 := by
  have h := step_ind (ski_step (m.S.map (·.addr)) m.now o) (e := []) hfl (n := m.S.length + 1) (Nat.le_refl _) ⟨rfl, by rw [List.length_map, if_neg (by omega)]; show m.now ≤ m.now + 0; omega⟩
  refine ⟨h.1, ?_⟩
  have := h.2
  split at this
  · exact this
  · dsimp only at this
    omega
/-- The addresses of a row of nodes. -/
def rowL (n : Nat) : List Int := (List.range n).map fun (i : Nat) => 10 * (i : Int) + 10
theorem rowL_len (n : Nat) : (rowL n).length = n := by simp [rowL]
theorem rowL_at {n k : Nat} (h : k < n) : (rowL n)[k]? = some (10 * (k : Int) + 10) := by
  unfold rowL
  rw [List.getElem?_map, List.getElem?_range h]
  rfl
theorem rowL_succ (n : Nat) : rowL (n + 1) = rowL n ++ [10 * (n : Int) + 10] := by
  unfold rowL
  rw [List.range_succ, List.map_append]
  rfl
theorem rowL_mem {n : Nat} (hn : n ≤ 6) : ∀ a ∈ rowL n, U32 a ∧ a ≠ 0 := by
  intro a ha
  obtain ⟨k, hk⟩ := List.getElem?_of_mem ha
  have hl := (List.getElem?_eq_some_iff.1 hk).1
  rw [rowL_len] at hl
  rw [rowL_at hl] at hk
  cases hk
  unfold U32
  omega
/-- What holds of a script's mesh behind i steps. -/
structure SQ (w : World) (n i : Nat) (y : MG) (m : Msh) (W : World) : Prop where
  mm : MM y m W
  low : ∀ k, MIn y m k → w.heap.size ≤ k
  bl : Below w.heap.size w W
  ok : MOk (1 + 1000000 * (i : Int)) i m
  fk : FK m
  nw : m.now ≤ 60000 * (i : Int)
  adr : m.S.map (·.addr) = rowL n
theorem SQ.len {w : World} {n i : Nat} {y : MG} {m : Msh} {W : World} (h : SQ w n i y m W) : m.S.length = n := by
  have := congrArg List.length h.adr
  rw [List.length_map, rowL_len] at this
  exact this
theorem SQ.addr {w : World} {n i : Nat} {y : MG} {m : Msh} {W : World} (h : SQ w n i y m W) {k : Nat} {s : Stn} (hs : m.S[k]? = some s) : k < n ∧ s.addr = 10 * (k : Int) + 10 := by
  have hk := (List.getElem?_eq_some_iff.1 hs).1
  rw [h.len] at hk
  have h1 : (m.S.map (·.addr))[k]? = some s.addr := by rw [List.getElem?_map, hs]; rfl
  rw [h.adr, rowL_at hk] at h1
  exact ⟨hk, (Option.some.inj h1).symm⟩
theorem SQ.later {w : World} {n i : Nat} {y : MG} {m : Msh} {W W' : World} (h : SQ w n i y m W) (hb : Below W.heap.size W W') : SQ w n i y m W' :=
  ⟨h.mm.later hb, h.low, h.bl.trans (hb.mono h.bl.size), h.ok, h.fk, h.nw, h.adr⟩
/-- The mesh has been asked something. -/
theorem SQ.asked {w : World} {n i : Nat} {y : MG} {m : Msh} {W W' : World} (h : SQ w n i y m W) (hp : MP y m m W W') : ∃ y', y'.G = y.G ∧ SQ w n i y' m W' := by
  obtain ⟨y', h1, u⟩ := hp
  have hz := h.bl.size
  refine ⟨y', u.G, h1, fun k hk => ?_, h.bl.trans (u.fx.toBelow hz fun j hj hf => by have := h.low j hf; omega), h.ok, h.fk, h.nw, h.adr⟩
  rcases u.sub k hk with e | e
  · exact h.low k e
  · omega
theorem SQ.stepped {w : World} {n i : Nat} {y : MG} {m m' : Msh} {W W' : World} (h : SQ w n i y m W) (hp : MP y m m' W W') (ok : MOk (1 + 1000000 * ((i + 1 : Nat) : Int)) (i + 1) m') (fk : FK m') (nw : m'.now ≤ 60000 * ((i + 1 : Nat) : Int)) (adr : m'.S.map (·.addr) = rowL n) : ∃ y', y'.G = y.G ∧ SQ w n (i + 1) y' m' W' := by
  obtain ⟨y', h1, u⟩ := hp
  have hz := h.bl.size
  refine ⟨y', u.G, h1, fun k hk => ?_, h.bl.trans (u.fx.toBelow hz fun j hj hf => by have := h.low j hf; omega), ok, fk, nw, adr⟩
  rcases u.sub k hk with e | e
  · exact h.low k e
  · omega
/-- A step. -/
theorem Q_Do {w : World} {n i : Nat} {y : MG} {m : Msh} {W : World} (h : SQ w n i y m W) (hi : i ≤ 4096) (o : Op) (ht : o.dow = 8 → o.txt.size ≤ 65536) :
    Calls Tryz.prog 11 #[.pointer (some ⟨y.G, 0, none⟩), opV o] W fun e W' => ∃ v L y', e = .returned v ∧ L.map (·.1) = (m.step o).2 ∧ EvsM W.heap.size v L W' ∧ y'.G = y.G ∧ SQ w n (i + 1) y' (m.step o).1 W' := by
  have hnw := h.nw
  refine (M_Do h.mm h.ok (by omega) (by omega) (by omega) h.fk.1 o ht fun k hk hkl hz => boot_dok h.ok (by omega) hkl).mono ?_
  rintro e W' ⟨⟨v, L, rfl, hL, hev, hmp⟩, hok⟩
  obtain ⟨s1, s2⟩ := step_sk (fun f hf => (h.fk.1 f hf).2.1) o
  obtain ⟨y', hG, hq⟩ := h.stepped hmp (hok.up (by omega) (Nat.le_refl _)) (h.fk.step o) (by omega) (s1.trans h.adr)
  exact ⟨v, L, y', rfl, hL, hev, hG, hq⟩
end Go.Proofs.YtakaadcpaeiccabGreat

namespace Go.Proofs.YtakaadcpaeiccabGreat
open Go.RowKit Go.Maps

/-! A row of nodes. -/
theorem row_cap {W : World} {base e size : Nat} {v : Value} {n : Nat} {xs : List Value} (h : W.ownsRow base e size v n xs) (hn : 0 < n) : ∃ g cap, v = .slice (some ⟨g, 0, none⟩) n cap ∧ n ≤ cap := by
  rcases h.2 with ⟨_, h0⟩ | ⟨g, cap, cur, rfl, hb, _, hl, _⟩
  · omega
  · exact ⟨g, cap, rfl, hl⟩
theorem row_wrap {k : Nat} (h : k < 6) : IntKind.u32.wrap (wrap64 (wrap64 (10 * (k : Int)) + 10)) = 10 * (k : Int) + 10 := by
  simp only [IntKind.wrap, IntKind.signed, IntKind.bits]
  unfold wrap64
  simp
  omega
theorem cells_u32 (W : World) (t : Int) : ∀ (j : Nat) (u : Value), [Value.int .u32 t][j]? = some u → (W.alloc (.cells #[.int .u32 t] 34)).cell? ((⟨W.heap.size, 0, none⟩ : Addr).add j) = some u := by
  intro j u hj
  match j, hj with
  | 0, hj =>
    rw [Addr.add_lit, Nat.zero_add]
    exact (World.cell?_alloc_new W _ _ _).trans hj
  | j + 1, hj => simp at hj

set_option maxRecDepth 100000 in
set_option maxHeartbeats 4000000 in
theorem row_any (n : Nat) (hn : 0 < n ∧ n ≤ 6) (w : World) :
    Calls Tryz.prog 10 #[.int .i64 n] w fun e w' => ∃ y : MG, e = .returned (.pointer (some ⟨y.G, 0, none⟩)) ∧ SQ w n 0 y (Msh.new (rowL n)) w' := by
  obtain ⟨i2, ki, kz0, kz1, kz2⟩ := info_parts info_u32
  go_enter Tryz.func10, Tryz.ntmps10
  go_wp2_with fail
  go_loopw [3, 4] (fun lv i wr => ∃ k : Nat, k ≤ n ∧ i = .int .i64 k ∧ wr.ownsRow w.heap.size 34 1 lv k ((rowL k).map (Value.int .u32)) ∧ Below w.heap.size w wr) (fun _ i _ => n - (intOf i).toNat)
  case atStart => exact ⟨0, Nat.zero_le _, rfl, ⟨rfl, .inl ⟨rfl, rfl⟩⟩, Below.refl _ _⟩
  case round =>
    obtain ⟨k, hk, rfl, hr, hb⟩ := hrel
    by_cases hlt : k < n
    · have hki : (k : Int) < (n : Int) := by omega
      have hw := row_wrap (k := k) (by omega)
      have hwk : wrap64 ((k : Int) + 1) = (k : Int) + 1 := by unfold wrap64; omega
      have hbU : Below wr.heap.size wr (wr.alloc (.cells #[.int .u32 (10 * (k : Int) + 10)] 34)) := (Below.refl _ _).alloc (Nat.le_refl _) _
      have hk1 : k + 1 ≤ maxLen := by unfold maxLen; omega
      have hk2 : (k + 1) * 4 ≤ 140737488355328 := by omega
      have hz := hb.size
      have hr0 := hr.alloc (.cells #[.int .u32 (10 * (k : Int) + 10)] 34)
      go_wp2_with (at_builtin; refine wpList_append_own_at _ rfl _ _ 36 rfl w.heap.size 34 i2 (.int .u32 0) 1 4 Tryz.underlying36 ki kz0 kz1 kz2 rfl (by decide) u3 k ((rowL k).map (Value.int .u32)) rfl hr0 ⟨wr.heap.size, 0, none⟩ 1 1 [.int .u32 (10 * (k : Int) + 10)] rfl rfl (cells_u32 wr _) (by simp [Value.oneCell']) hk1 hk2 ?c3 ?_)
      case c3 => simp; omega
      intro v7 w7 ho7 hg7 _ hv7
      have hb7 := (hb.trans (hbU.mono hz)).grown hg7 (by simp; omega) (fun k e => (hr0.lt k e).1)
      have ho8 : w7.ownsRow w.heap.size 34 1 v7 (k + 1) ((rowL (k + 1)).map (Value.int .u32)) := by rw [rowL_succ, List.map_append]; exact ho7
      clear hr hb hr0 hg7 hv7 hbU ho7 hw
      go_wp2
      go_roundw
      case rel => exact ⟨k + 1, by omega, by go_num, ho8, hb7⟩
      case measure => simp [intOf]; omega
    · obtain rfl : k = n := by omega
      obtain ⟨g, cap, rfl, hcap⟩ := row_cap hr hn.1
      have hHN := hide (M_New g k cap (rowL k) wr (rowL_len k) hn hcap (fun j hj => by rw [List.getD_eq_getElem?_getD, rowL_at hj]; exact (rowL_mem hn.2 _ (List.mem_of_getElem? (rowL_at hj))).1) (hr.lt g rfl).2 (fun j hj => (hr.cellAt j (by omega)).trans (by rw [List.getElem?_map, rowL_at hj, List.getD_eq_getElem?_getD, rowL_at hj]; rfl)) (fun j hj => by rw [List.getD_eq_getElem?_getD, rowL_at hj]; exact (rowL_mem hn.2 _ (List.mem_of_getElem? (rowL_at hj))).2) (fun i j hij hj => by rw [List.getD_eq_getElem?_getD, List.getD_eq_getElem?_getD, rowL_at hj, rowL_at (by omega)]; show 10 * (i : Int) + 10 ≠ 10 * (j : Int) + 10; omega))
      have hnew := new_mok (L := rowL k) (by rw [rowL_len]; exact hn.2) (fun a ha => (rowL_mem hn.2 a ha).1) (fun a ha => (rowL_mem hn.2 a ha).2)
      have hfk := fk_new (L := rowL k) (by rw [rowL_len]; exact hn.2) (fun a ha => (rowL_mem hn.2 a ha).1) (fun a ha => (rowL_mem hn.2 a ha).2)
      have hz := hb.size
      have hfin : Hid (∀ (y : MG) w', MM y (Msh.new (rowL k)) w' → Fx (fun _ => False) wr w' → (∀ q, MIn y (Msh.new (rowL k)) q → wr.heap.size ≤ q) → SQ w k 0 y (Msh.new (rowL k)) w') := hide fun y w' h1 h2 h3 => by
        refine ⟨h1, fun q hq => Nat.le_trans hz (h3 q hq), hb.trans (h2.toBelow hz fun _ _ h => absurd h id), hnew.1.up (by omega) (Nat.le_refl _), hfk, ?_, ?_⟩
        · show (0 : Int) ≤ _
          omega
        · show ((rowL k).map stN).map (·.addr) = rowL k
          rw [List.map_map]
          exact List.map_id _
      clear hnew hfk hr hb hcap
      go_wp2_with (go_at_call 27; refine hHN.out.mono ?_; rintro e w5 ⟨y, rfl, hm, hf, hge⟩; have hq := hide (hfin.out y w5 hm hf hge); clear hm hf hge)
      go_ret
      exact ⟨y, rfl, hq.out⟩
end Go.Proofs.YtakaadcpaeiccabGreat
