import Derived.Test.YtjkjepoeiabpiaaM5
namespace Go.Proofs.Ytjkjepoeiabpiaa
open Go.RowKit Go.Maps
open Hp

/-- What the first way of keeping them does: it returns ev, and tells A' then. -/
def MP (base T M : Nat) (v : Value) (ev : Value) (A' : List Tm) (last' : Int) (w : World) (e : Ending) (w' : World) : Prop :=
  e = .returned ev ∧ ∃ h' v', TR base T M last' h' v' w' ∧ Fr T M v w w' ∧ (v'.ownBlock = v.ownBlock ∨ ∀ k, v'.ownBlock = some k → w.heap.size ≤ k) ∧ Same A' h' last'
/-- What the second way does. -/
def RP (base R : Nat) (u : Value) (ev : Value) (A' : List Tm) (last' : Int) (w : World) (e : Ending) (w' : World) : Prop :=
  e = .returned ev ∧ ∃ u', RR base R last' A' u' w' ∧ Fr R R u w w' ∧ (u'.ownBlock = u.ownBlock ∨ ∀ k, u'.ownBlock = some k → w.heap.size ≤ k)

theorem pairAdd {base T M R : Nat} {last : Int} {h A : List Tm} {v u : Value} (s : Same A h last) (hn : A.length ≤ 900000) (l0 : 0 ≤ last) (l1 : last ≤ 1000000) (tm what : Int) (a0 : 0 ≤ tm ∧ tm < 18446744073709551616) (b0 : I64 what) :
    (∀ w, TR base T M last h v w → base ≤ w.heap.size → Calls Try.prog 24 #[.pointer (some ⟨T, 0, none⟩), .int .u64 tm, .int .i64 what] w (MP base T M v (.int .i64 (last + 1)) (A ++ [(tm, last + 1, what)]) (last + 1) w)) ∧
    (∀ w, RR base R last A u w → base ≤ w.heap.size → Calls Try.prog 25 #[.pointer (some ⟨R, 0, none⟩), .int .u64 tm, .int .i64 what] w (RP base R u (.int .i64 (last + 1)) (A ++ [(tm, last + 1, what)]) (last + 1) w)) := by
  constructor
  · intro w r hb
    refine (Add_any base T M last h v w r (by rw [s.len]; exact hn) s.heap l0 l1 (fun x hx => s.le x (s.perm.mem_iff.1 hx)) tm what a0 b0 hb).mono ?_
    rintro e w' ⟨rfl, h', v', r', hF, hv, hp, hH⟩
    exact ⟨rfl, h', v', r', hF, hv, s.add tm what hp hH⟩
  · intro w r hb
    refine (rAdd_any base R last A u w r hn l0 l1 tm what a0 b0 hb).mono ?_
    rintro e w' ⟨rfl, v', r', hF, hv⟩
    exact ⟨rfl, v', r', hF, hv⟩
theorem pairCancel {base T M R : Nat} {last : Int} {h A : List Tm} {v u : Value} (s : Same A h last) (hn : A.length ≤ 900000) (k : Int) (hk : I64 k) :
    ∃ (c : Bool) (A' : List Tm), A'.length ≤ A.length ∧
    (∀ w, TR base T M last h v w → Calls Try.prog 26 #[.pointer (some ⟨T, 0, none⟩), .int .i64 k] w (MP base T M v (.bool c) A' last w)) ∧
    (∀ w, RR base R last A u w → base ≤ w.heap.size → Calls Try.prog 27 #[.pointer (some ⟨R, 0, none⟩), .int .i64 k] w (RP base R u (.bool c) A' last w)) := by
  have hl := s.len
  by_cases hx : ∃ i, i < A.length ∧ (at' A i).2.1 = k
  · obtain ⟨i, hi, hik⟩ := hx
    refine ⟨true, A.eraseIdx i, by rw [List.length_eraseIdx_of_lt hi]; omega, ?_, ?_⟩
    · intro w r
      refine (Cancel_any base T M last h v w r (by omega) s.heap k hk).mono ?_
      rintro e w' ⟨h', v', r', hF, hv, hH, ⟨x, hxk, rfl, hp⟩ | ⟨hno, _⟩⟩
      · obtain ⟨j, hj, rfl⟩ := s.find (hp.mem_iff.1 (List.mem_cons_self ..))
        obtain rfl : j = i := s.ids hj hi (by rw [hxk, hik])
        exact ⟨rfl, h', v', r', hF, .inl hv, s.cut hj hp hH⟩
      · exact absurd hik (hno _ (s.perm.mem_iff.2 (List.mem_of_getElem? (at_get hi))))
    · intro w r hb
      refine (rCancel_any base R last A u w r (by omega) hb k).mono ?_
      rintro e w' ⟨A', v', r', hF, hv, ⟨j, hj, hjk, rfl, rfl⟩ | ⟨hno, _⟩⟩
      · obtain rfl : j = i := s.ids hj hi (by rw [hjk, hik])
        exact ⟨rfl, v', r', hF, hv⟩
      · exact absurd hik (hno i hi)
  · refine ⟨false, A, Nat.le_refl _, ?_, ?_⟩
    · intro w r
      refine (Cancel_any base T M last h v w r (by omega) s.heap k hk).mono ?_
      rintro e w' ⟨h', v', r', hF, hv, hH, ⟨x, hxk, rfl, hp⟩ | ⟨hno, rfl, rfl⟩⟩
      · obtain ⟨j, hj, rfl⟩ := s.find (hp.mem_iff.1 (List.mem_cons_self ..))
        exact absurd ⟨j, hj, hxk⟩ hx
      · exact ⟨rfl, h', v', r', hF, .inl hv, s⟩
    · intro w r hb
      refine (rCancel_any base R last A u w r (by omega) hb k).mono ?_
      rintro e w' ⟨A', v', r', hF, hv, ⟨j, hj, hjk, rfl, rfl⟩ | ⟨hno, rfl, rfl⟩⟩
      · exact absurd ⟨j, hj, hjk⟩ hx
      · exact ⟨rfl, v', r', hF, hv⟩
theorem RBest.exists (A : List Tm) (now : Int) : ∀ j, ∃ b, RBest A now j b
  | 0 => ⟨-1, .inl ⟨rfl, fun q hq => by omega⟩⟩
  | j + 1 => by
    obtain ⟨b, hb⟩ := RBest.exists A now j
    by_cases hdue : (at' A j).1 ≤ now
    · rcases hb with ⟨rfl, hall⟩ | ⟨m, rfl, hmj, hm1, hm2, hm3⟩
      · refine ⟨j, .inr ⟨j, rfl, by omega, hdue, fun q hq => ?_, fun q hq => ?_⟩⟩
        · by_cases e : q = j
          · subst e; exact Int.le_refl _
          · have := hall q (by omega); omega
        · have := hall q hq; omega
      · by_cases hless : (at' A j).1 < (at' A m).1
        · refine ⟨j, .inr ⟨j, rfl, by omega, hdue, fun q hq => ?_, fun q hq => ?_⟩⟩
          · by_cases e : q = j
            · subst e; exact Int.le_refl _
            · have := hm2 q (by omega); omega
          · have := hm2 q hq; omega
        · refine ⟨m, .inr ⟨m, rfl, by omega, hm1, fun q hq => ?_, hm3⟩⟩
          by_cases e : q = j
          · subst e; omega
          · exact hm2 q (by omega)
    · rcases hb with ⟨rfl, hall⟩ | ⟨m, rfl, hmj, hm1, hm2, hm3⟩
      · refine ⟨-1, .inl ⟨rfl, fun q hq => ?_⟩⟩
        by_cases e : q = j
        · subst e; omega
        · exact hall q (by omega)
      · refine ⟨m, .inr ⟨m, rfl, by omega, hm1, fun q hq => ?_, hm3⟩⟩
        by_cases e : q = j
        · subst e; omega
        · exact hm2 q (by omega)
theorem pairNext {base T M R : Nat} {last : Int} {h A : List Tm} {v u : Value} (s : Same A h last) (hn : A.length ≤ 900000) (now : Int) (n0 : 0 ≤ now) (n1 : now < 18446744073709551616) :
    ∃ (what : Int) (c : Bool) (A' : List Tm), A'.length ≤ A.length ∧
    (∀ w, TR base T M last h v w → Calls Try.prog 28 #[.pointer (some ⟨T, 0, none⟩), .int .u64 now] w (MP base T M v (.tuple #[.int .i64 what, .bool c]) A' last w)) ∧
    (∀ w, RR base R last A u w → base ≤ w.heap.size → Calls Try.prog 29 #[.pointer (some ⟨R, 0, none⟩), .int .u64 now] w (RP base R u (.tuple #[.int .i64 what, .bool c]) A' last w)) := by
  have hl := s.len
  obtain ⟨b, hb⟩ := RBest.exists A now A.length
  rcases hb with ⟨_, hall⟩ | ⟨m, _, hmj, hm1, hm2, hm3⟩
  · refine ⟨0, false, A, Nat.le_refl _, ?_, ?_⟩
    · intro w r
      refine (Next_any base T M last h v w r (by omega) s.heap now n0 n1).mono ?_
      rintro e w' ⟨h', v', r', hF, hv, hH, ⟨h0, hle, rfl, hp⟩ | ⟨hno, rfl, rfl⟩⟩
      · obtain ⟨j, hj, e⟩ := s.find (List.mem_of_getElem? (at_get h0))
        have := hall j hj
        rw [← e] at this
        omega
      · exact ⟨rfl, h', v', r', hF, .inl hv, s⟩
    · intro w r hb
      refine (rNext_any base R last A u w r (by omega) hb now).mono ?_
      rintro e w' ⟨A', v', r', hF, hv, ⟨j, hj, hj1, _, _, rfl, rfl⟩ | ⟨hno, rfl, rfl⟩⟩
      · have := hall j hj; omega
      · exact ⟨rfl, v', r', hF, hv⟩
  · obtain ⟨h0, e0⟩ := s.first hmj hm2 hm3
    refine ⟨(at' A m).2.2, true, A.eraseIdx m, by rw [List.length_eraseIdx_of_lt hmj]; omega, ?_, ?_⟩
    · intro w r
      refine (Next_any base T M last h v w r (by omega) s.heap now n0 n1).mono ?_
      rintro e w' ⟨h', v', r', hF, hv, hH, ⟨h0', hle, rfl, hp⟩ | ⟨hno, _⟩⟩
      · rw [e0] at hp ⊢
        exact ⟨rfl, h', v', r', hF, .inl hv, s.cut hmj hp hH⟩
      · rcases hno with hno | hno
        · omega
        · rw [e0] at hno; omega
    · intro w r hb
      refine (rNext_any base R last A u w r (by omega) hb now).mono ?_
      rintro e w' ⟨A', v', r', hF, hv, ⟨j, hj, hj1, hj2, hj3, rfl, rfl⟩ | ⟨hno, _⟩⟩
      · obtain rfl : j = m := by
          rcases Nat.lt_trichotomy j m with a | a | a
          · have := hm3 j a; have := hj2 m hmj; omega
          · exact a
          · have := hj3 m a; have := hm2 j hj; omega
        exact ⟨rfl, v', r', hF, hv⟩
      · have := hno m hmj; omega

/-- A step of the script. -/
abbrev Sp := Int × Int × Int × Bool
def spC (x : Sp) : List Value := [.int .i64 x.1, .int .i64 x.2.1, .int .u64 x.2.2.1, .bool x.2.2.2]
@[reducible] def spBox (x : Sp) : Obj := .cells #[.int .i64 x.1, .int .i64 x.2.1, .int .u64 x.2.2.1, .bool x.2.2.2] 62
def SL (L : List Sp) : List Value := L.flatMap spC
def SpOk (x : Sp) : Prop := I64 x.1 ∧ I64 x.2.1 ∧ 0 ≤ x.2.2.1 ∧ x.2.2.1 < 18446744073709551616
/-- The step's own block. -/
def SpB (B : Nat) (x : Sp) (W : World) : Prop := W.heap[B]? = some (spBox x)
theorem TR.lower {base base' T M : Nat} {last : Int} {h : List Tm} {v : Value} {W : World} (r : TR base T M last h v W) (hb : base' ≤ base) : TR base' T M last h v W :=
  ⟨r.blk, row_lower r.row hb, r.map, r.ok, Nat.le_trans hb r.bT, Nat.le_trans hb r.bM⟩
theorem SpB.cell {B : Nat} {x : Sp} {W : World} (h : SpB B x W) : W.cell? ⟨B, 0, none⟩ = some (.int .i64 x.1) ∧ W.cell? ⟨B, 1, none⟩ = some (.int .i64 x.2.1) ∧ W.cell? ⟨B, 2, none⟩ = some (.int .u64 x.2.2.1) ∧ W.cell? ⟨B, 3, none⟩ = some (.bool x.2.2.2) :=
  ⟨cell_of_row W B 0 _ _ _ h, cell_of_row W B 1 _ _ _ h, cell_of_row W B 2 _ _ _ h, cell_of_row W B 3 _ _ _ h⟩
theorem SpB.lt {B : Nat} {x : Sp} {W : World} (h : SpB B x W) : B < W.heap.size := (Array.getElem?_eq_some_iff.1 h).1
theorem SpB.free {B : Nat} {x : Sp} {W : World} (h : SpB B x W) (i : Nat) : W.frozen? ⟨B, i, none⟩ = false := by
  unfold SpB at h
  simp [World.frozen?, h]
theorem SpB.k {B : Nat} {x : Sp} {W : World} (h : SpB B x W) : knd W B = some (some 62) := by
  unfold SpB at h
  simp only [knd, h]
theorem SpB.fr {B : Nat} {x : Sp} {W W' : World} {T M : Nat} {v : Value} (h : SpB B x W) (hf : Fr T M v W W') {t m y : Option TypeId} (kT : knd W T = some t) (kM : knd W M = some m) (kv : ∀ k, v.ownBlock = some k → knd W k = some y) (h1 : some 62 ≠ t) (h2 : some 62 ≠ m) (h3 : some 62 ≠ y) : SpB B x W' :=
  (hf.block B h.lt (knd_ne h.k kT h1) (knd_ne h.k kM h2) (knd_own h.k kv h3)).trans h
theorem PRow.at {g : Nat} {p : Bool → Nat} {e : TypeId} {W : World} (h : PRow g p e W) : W.cell? ⟨g, 0, none⟩ = some (.pointer (some ⟨p false, 0, none⟩)) ∧ W.cell? ⟨g, 1, none⟩ = some (.pointer (some ⟨p true, 0, none⟩)) :=
  ⟨cell_of_row W g 0 _ _ _ h, cell_of_row W g 1 _ _ _ h⟩
theorem PRow.fr {g : Nat} {p : Bool → Nat} {e : TypeId} {W W' : World} {T M : Nat} {v : Value} (h : PRow g p e W) (hf : Fr T M v W W') {t m y : Option TypeId} (kT : knd W T = some t) (kM : knd W M = some m) (kv : ∀ k, v.ownBlock = some k → knd W k = some y) (h1 : some e ≠ t) (h2 : some e ≠ m) (h3 : some e ≠ y) : PRow g p e W' :=
  (hf.block g h.lt (knd_ne h.k kT h1) (knd_ne h.k kM h2) (knd_own h.k kv h3)).trans h
/-- The cells that a statement reads ahead of its call. -/
@[reducible] def SS (g j p B : Nat) (nn aa : Int) (W : World) : Prop :=
  W.cell? ⟨g, j, none⟩ = some (.pointer (some ⟨p, 0, none⟩)) ∧ W.cell? ⟨B, 1, none⟩ = some (.int .i64 nn) ∧ W.cell? ⟨B, 2, none⟩ = some (.int .u64 aa)
section
variable {w0 : World} {T M R : Bool → Nat} {gt gr : Nat} {l m : Bool → Int} {h A : Bool → List Tm} {v u : Bool → Value} {W W' : World}
theorem Inv.ssT (i : Inv w0 T M R gt gr l m h A v u W) {B : Nat} {d nn aa : Int} {tw : Bool} (s : SpB B (d, nn, aa, tw) W) : SS gt 0 (T false) B nn aa W ∧ SS gt 1 (T true) B nn aa W :=
  ⟨⟨i.rowT.at.1, s.cell.2.1, s.cell.2.2.1⟩, ⟨i.rowT.at.2, s.cell.2.1, s.cell.2.2.1⟩⟩
theorem Inv.ssR (i : Inv w0 T M R gt gr l m h A v u W) {B : Nat} {d nn aa : Int} {tw : Bool} (s : SpB B (d, nn, aa, tw) W) : SS gr 0 (R false) B nn aa W ∧ SS gr 1 (R true) B nn aa W :=
  ⟨⟨i.rowR.at.1, s.cell.2.1, s.cell.2.2.1⟩, ⟨i.rowR.at.2, s.cell.2.1, s.cell.2.2.1⟩⟩
theorem Inv.spT (i : Inv w0 T M R gt gr l m h A v u W) (b : Bool) {B : Nat} {x : Sp} (s : SpB B x W) (hf : Fr (T b) (M b) (v b) W W') : SpB B x W' :=
  s.fr hf (i.tr b).kT (i.tr b).kM (row_knd (i.tr b).row) (by decide) (by decide) (by decide)
theorem Inv.spR (i : Inv w0 T M R gt gr l m h A v u W) (b : Bool) {B : Nat} {x : Sp} (s : SpB B x W) (hf : Fr (R b) (R b) (u b) W W') : SpB B x W' :=
  s.fr hf (i.rr b).kT (i.rr b).kT (row_knd (i.rr b).row) (by decide) (by decide) (by decide)
theorem Inv.keepT (i : Inv w0 T M R gt gr l m h A v u W) (b : Bool) {B : Nat} {d nn aa : Int} {tw : Bool} (s : SpB B (d, nn, aa, tw) W) (hf : Fr (T b) (M b) (v b) W W') : SS gt 0 (T false) B nn aa W' ∧ SS gt 1 (T true) B nn aa W' := by
  have hr := i.rowT.fr hf (i.tr b).kT (i.tr b).kM (row_knd (i.tr b).row) (by decide) (by decide) (by decide)
  have hs := i.spT b s hf
  exact ⟨⟨hr.at.1, hs.cell.2.1, hs.cell.2.2.1⟩, ⟨hr.at.2, hs.cell.2.1, hs.cell.2.2.1⟩⟩
theorem Inv.keepR (i : Inv w0 T M R gt gr l m h A v u W) (b : Bool) {B : Nat} {d nn aa : Int} {tw : Bool} (s : SpB B (d, nn, aa, tw) W) (hf : Fr (R b) (R b) (u b) W W') : SS gr 0 (R false) B nn aa W' ∧ SS gr 1 (R true) B nn aa W' := by
  have hr := i.rowR.fr hf (i.rr b).kT (i.rr b).kT (row_knd (i.rr b).row) (by decide) (by decide) (by decide)
  have hs := i.spR b s hf
  exact ⟨⟨hr.at.1, hs.cell.2.1, hs.cell.2.2.1⟩, ⟨hr.at.2, hs.cell.2.1, hs.cell.2.2.1⟩⟩
theorem SpB.drew {B : Nat} {x : Sp} {W : World} (h : SpB B x W) : SpB B x W.drew := h
theorem Inv.drew (i : Inv w0 T M R gt gr l m h A v u W) : Inv w0 T M R gt gr l m h A v u W.drew := i.later ((Below.refl _ _).grown (row := none) (grown_dr (grown_rfl _ _)) (Nat.le_refl _) (fun k hk => by cases hk))
end
/-- What holds of the two sets, round by round. -/
structure Two2 (n : Nat) (l : Bool → Int) (h A : Bool → List Tm) : Prop where
  same : ∀ b, Same (A b) (h b) (l b)
  low : ∀ b, 0 ≤ l b
  high : ∀ b, l b ≤ n
  len : ∀ b, (A b).length ≤ n
theorem all_set {α : Type} {P : α → Prop} {f : Bool → α} (b : Bool) {x : α} (hf : ∀ c, P (f c)) (hx : P x) : ∀ c, P (setB f b x c) := by
  intro c
  by_cases hc : c = b
  · subst hc; rw [setB_same]; exact hx
  · rw [setB_other _ _ hc]; exact hf c
theorem Two2.step {n : Nat} {l : Bool → Int} {h A : Bool → List Tm} (t : Two2 n l h A) (b : Bool) {l' : Int} {h' A' : List Tm} (s : Same A' h' l') (h0 : 0 ≤ l') (h1 : l' ≤ n + 1) (h2 : A'.length ≤ n + 1) : Two2 (n + 1) (setB l b l') (setB h b h') (setB A b A') := by
  refine ⟨fun c => ?_, all_set b (P := fun x : Int => 0 ≤ x) t.low h0, all_set b (P := fun x : Int => x ≤ ((n + 1 : Nat) : Int)) (fun c => by have := t.high c; omega) (by omega), all_set b (P := fun x : List Tm => x.length ≤ n + 1) (fun c => by have := t.len c; omega) h2⟩
  by_cases hc : c = b
  · subst hc; rw [setB_same, setB_same, setB_same]; exact s
  · rw [setB_other _ _ hc, setB_other _ _ hc, setB_other _ _ hc]; exact t.same c
theorem Two2.more {n : Nat} {l : Bool → Int} {h A : Bool → List Tm} (t : Two2 n l h A) : Two2 (n + 1) l h A :=
  ⟨t.same, t.low, fun b => by have := t.high b; omega, fun b => by have := t.len b; omega⟩
end Go.Proofs.Ytjkjepoeiabpiaa
