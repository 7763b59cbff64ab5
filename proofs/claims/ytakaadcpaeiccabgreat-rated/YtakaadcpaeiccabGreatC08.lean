import Derived.Test.YtakaadcpaeiccabGreatC07
import Derived.Deep.RegionHeld3
import Derived.Deep.Cut
namespace Go.Proofs.YtakaadcpaeiccabGreat
open Go.RowKit Go.Maps

set_option maxRecDepth 100000 in
set_option maxHeartbeats 2000000 in
theorem Find_no (T : Nat) (d now : Int) (w : World) (hv : Calls Tryz.prog 116 #[.pointer (some ⟨T, 0, none⟩), .int .u32 d] (w.alloc (rtBox zeroR (.slice none 0 0))) fun e w' => e = .returned (.pointer none) ∧ w' = (w.alloc (rtBox zeroR (.slice none 0 0)))) :
    Calls Tryz.prog 79 #[.pointer (some ⟨T, 0, none⟩), .int .u32 d, .int .u64 now] w fun e w' => e = .returned (.tuple #[rtV zeroR (.slice none 0 0), .bool false]) ∧ Below w.heap.size w w' := by
  have hb : Below w.heap.size w (w.alloc (rtBox zeroR (.slice none 0 0))) := (Below.refl _ _).alloc (Nat.le_refl _) _
  have hZ := LnB.new zeroR (.slice none 0 0) w
  have HV := (show Hid _ from hv)
  clear hv
  dsimp only [rtBox, zeroR] at hb hZ HV
  go_enter Tryz.func79, Tryz.ntmps79
  go_wp2_with fail
  generalize World.alloc _ _ = W1 at hb hZ HV ⊢
  refine Calls.mono HV.out ?_
  rintro e w1 ⟨rfl, rfl⟩
  clear HV
  obtain ⟨z0, z1, z2, z3, z4, z5, z6⟩ := hZ.cell
  have zf := hZ.free
  have hF := hZ.store zeroR (.slice none 0 0)
  have hG := hb.grown (grown_store7 w1 w.heap.size zeroR (.slice none 0 0)) hb.size (fun k e => by cases e; exact Nat.le_refl _)
  dsimp only [zeroR] at z0 z1 z2 z3 z4 z5 z6
  clear hb hZ
  go_wp2
  dsimp only [store7, zeroR] at hF hG
  generalize World.setCell _ _ _ = W8 at hF hG ⊢
  obtain ⟨q0, q1, q2, q3, q4, q5, q6⟩ := hF.cell
  exact bodyPost_ret (v := .tuple #[rtV zeroR (.slice none 0 0), .bool false]) (by simp [results, Tryz.results79, go_sem, q0, q1, q2, q3, q4, q5, q6, zeroR]) rfl ⟨rfl, hG⟩
set_option maxRecDepth 100000 in
set_option maxHeartbeats 2000000 in
theorem Find_old (T : Nat) (d now : Int) (B : Nat) (x : Rt) (v : Value) (hx : x.exp ≤ now) (w : World) (h : LnB B x v w) (hv : Calls Tryz.prog 116 #[.pointer (some ⟨T, 0, none⟩), .int .u32 d] (w.alloc (rtBox zeroR (.slice none 0 0))) fun e w' => e = .returned (.pointer (some ⟨B, 0, none⟩)) ∧ w' = (w.alloc (rtBox zeroR (.slice none 0 0)))) :
    Calls Tryz.prog 79 #[.pointer (some ⟨T, 0, none⟩), .int .u32 d, .int .u64 now] w fun e w' => e = .returned (.tuple #[rtV zeroR (.slice none 0 0), .bool false]) ∧ Below w.heap.size w w' := by
  have hd : decide (x.exp ≤ now) = true := decide_eq_true hx
  have hb : Below w.heap.size w (w.alloc (rtBox zeroR (.slice none 0 0))) := (Below.refl _ _).alloc (Nat.le_refl _) _
  have hZ := LnB.new zeroR (.slice none 0 0) w
  have hL := h.later hb
  have HV := (show Hid _ from hv)
  clear hv
  dsimp only [rtBox, zeroR] at hb hZ HV hL
  go_enter Tryz.func79, Tryz.ntmps79
  go_wp2_with fail
  generalize World.alloc _ _ = W1 at hb hZ HV hL ⊢
  refine Calls.mono HV.out ?_
  rintro e w1 ⟨rfl, rfl⟩
  clear HV
  obtain ⟨_, _, _, _, _, c5, _⟩ := hL.cell
  obtain ⟨z0, z1, z2, z3, z4, z5, z6⟩ := hZ.cell
  have zf := hZ.free
  have hF := hZ.store zeroR (.slice none 0 0)
  have hG := hb.grown (grown_store7 w1 w.heap.size zeroR (.slice none 0 0)) hb.size (fun k e => by cases e; exact Nat.le_refl _)
  dsimp only [zeroR] at z0 z1 z2 z3 z4 z5 z6
  clear hb hZ hL
  go_wp2
  dsimp only [store7, zeroR] at hF hG
  generalize World.setCell _ _ _ = W8 at hF hG ⊢
  obtain ⟨q0, q1, q2, q3, q4, q5, q6⟩ := hF.cell
  exact bodyPost_ret (v := .tuple #[rtV zeroR (.slice none 0 0), .bool false]) (by simp [results, Tryz.results79, go_sem, q0, q1, q2, q3, q4, q5, q6, zeroR]) rfl ⟨rfl, hG⟩
set_option maxRecDepth 100000 in
set_option maxHeartbeats 2000000 in
theorem Find_yes (T : Nat) (d now : Int) (B : Nat) (x : Rt) (v : Value) (hx : ¬ x.exp ≤ now) (hn : x.bef.length ≤ 4) (w : World) (h : LnB B x v w) (hr : w.ownsRow 0 34 1 v x.bef.length (x.bef.map encU)) (hv : Calls Tryz.prog 116 #[.pointer (some ⟨T, 0, none⟩), .int .u32 d] (w.alloc (rtBox zeroR (.slice none 0 0))) fun e w' => e = .returned (.pointer (some ⟨B, 0, none⟩)) ∧ w' = (w.alloc (rtBox zeroR (.slice none 0 0)))) :
    Calls Tryz.prog 79 #[.pointer (some ⟨T, 0, none⟩), .int .u32 d, .int .u64 now] w fun e w' => ∃ v', e = .returned (.tuple #[rtV x v', .bool true]) ∧ w'.ownsRow w.heap.size 34 1 v' x.bef.length (x.bef.map encU) ∧ Below w.heap.size w w' := by
  have hd : decide (x.exp ≤ now) = false := decide_eq_false hx
  have hb : Below w.heap.size w (w.alloc (rtBox zeroR (.slice none 0 0))) := (Below.refl _ _).alloc (Nat.le_refl _) _
  have hs1 : w.heap.size + 1 ≤ (w.alloc (rtBox zeroR (.slice none 0 0))).heap.size := by simp
  have hZ := LnB.new zeroR (.slice none 0 0) w
  have hL := h.later hb
  have hR := step_append_kept hr hb
  have HV := (show Hid _ from hv)
  clear hv
  dsimp only [rtBox, zeroR] at hb hs1 hZ HV hL hR
  go_enter Tryz.func79, Tryz.ntmps79
  go_wp2_with fail
  generalize World.alloc _ _ = W1 at hb hs1 hZ HV hL hR ⊢
  refine Calls.mono HV.out ?_
  rintro e w1 ⟨rfl, rfl⟩
  clear HV
  obtain ⟨_, _, _, _, _, c5, _⟩ := hL.cell
  go_wp2_with fail
  refine (handOut_any B x v hn _ hL hR).mono ?_
  rintro e w2 ⟨v', rfl, ho2, hb2⟩
  obtain ⟨ao2, c2', rfl, _⟩ := row_form ho2
  have hZ2 := hZ.later hb2
  have hbb := hb.trans (hb2.mono hb.size)
  obtain ⟨z0, z1, z2, z3, z4, z5, z6⟩ := hZ2.cell
  have zf := hZ2.free
  have hlt := ho2.lt
  have hF := hZ2.store x (.slice ao2 x.bef.length c2')
  have hg4 := grown_store7 w2 w.heap.size x (.slice ao2 x.bef.length c2')
  have ho4 := ho2.kept hg4 (.inr (fun e => by have := (hlt _ e).1; omega))
  have hG := hbb.grown hg4 hbb.size (fun k e => by cases e; exact Nat.le_refl _)
  dsimp only at z0 z1 z2 z3 z4 z5 z6
  clear hb hZ hL hR hb2 hbb ho2 hlt hg4 c5 hZ2
  go_wp2
  dsimp only [store7] at hF hG ho4
  generalize World.setCell _ _ _ = W8 at hF hG ho4 ⊢
  obtain ⟨q0, q1, q2, q3, q4, q5, q6⟩ := hF.cell
  exact bodyPost_ret (v := .tuple #[rtV x (.slice ao2 x.bef.length c2'), .bool true]) (by simp [results, Tryz.results79, go_sem, q0, q1, q2, q3, q4, q5, q6]) rfl ⟨_, rfl, ownsRow_base_a ho4 (by omega), hG⟩
theorem Find_any (me : Int) (T : Nat) (S : Nat → Prop) (A : List Rt) (d now : Int) (hd : U32 d) (w : World) (h : Tab me T S A w) :
    Calls Tryz.prog 79 #[.pointer (some ⟨T, 0, none⟩), .int .u32 d, .int .u64 now] w fun e w' => ∃ v', e = .returned (.tuple #[rtV (findL A d now).1 v', .bool (findL A d now).2]) ∧ w'.ownsRow w.heap.size 34 1 v' (findL A d now).1.bef.length ((findL A d now).1.bef.map encU) ∧ Below w.heap.size w w' := by
  obtain ⟨M, f, g, hM, hS⟩ := h
  have hb : Below w.heap.size w (w.alloc (rtBox zeroR (.slice none 0 0))) := (Below.refl _ _).alloc (Nat.le_refl _) _
  have hv := valid_any (hM.later hb) hd
  unfold validP at hv
  unfold findL
  cases hl : lineOf A d with
  | none =>
    rw [hl] at hv
    refine (Find_no T d now w hv).mono ?_
    rintro e w' ⟨rfl, hb'⟩
    exact ⟨_, rfl, ⟨rfl, .inl ⟨rfl, rfl⟩⟩, hb'⟩
  | some x =>
    rw [hl] at hv
    obtain ⟨hx, hxd, B, hB, hL, hR⟩ := hM.line hl
    rw [hB] at hv
    cases hxv : x.valid with
    | false =>
      simp only [hxv] at hv
      refine (Find_no T d now w hv).mono ?_
      rintro e w' ⟨rfl, hb'⟩
      simp only [hxv, Bool.false_and]
      exact ⟨_, rfl, ⟨rfl, .inl ⟨rfl, rfl⟩⟩, hb'⟩
    | true =>
      simp only [hxv, if_true, Option.map_some] at hv
      by_cases hex : x.exp ≤ now
      · refine (Find_old T d now B x (g d) hex w hL hv).mono ?_
        rintro e w' ⟨rfl, hb'⟩
        have : decide (x.exp > now) = false := decide_eq_false (by omega)
        simp only [hxv, this, Bool.and_false]
        exact ⟨_, rfl, ⟨rfl, .inl ⟨rfl, rfl⟩⟩, hb'⟩
      · refine (Find_yes T d now B x (g d) hex (hM.ok x hx).befs w hL hR hv).mono ?_
        rintro e w' ⟨v', rfl, ho, hb'⟩
        have : decide (x.exp > now) = true := decide_eq_true (by omega)
        simp only [hxv, this, Bool.and_true, if_true]
        exact ⟨v', rfl, ho, hb'⟩
end Go.Proofs.YtakaadcpaeiccabGreat

namespace Go.Proofs.YtakaadcpaeiccabGreat
open Go.RowKit Go.Maps

/-- A line in a new block. -/
theorem MT.fresh {me : Int} {T M : Nat} {f : Int → Option Nat} {g : Int → Value} {A : List Rt} {w : World} (h : MT me T M f g A w) {d : Int} {y : Rt} (hyd : y.dest = d) (hok : y.Ok) (hbef : y.bef = []) {N : Nat} (_hN : w.heap.size ≤ N) {w' : World} {A' : List Rt}
    (hL : LnB N y (.slice none 0 0) w') (hm : MapP w' M (updP f d (some N)) A'.length) (hk : ∀ k, k < w.heap.size → k ≠ M → w'.heap[k]? = w.heap[k]?)
    (hmem : ∀ z ∈ A', z = y ∨ (z ∈ A ∧ z.dest ≠ d)) (hy : y ∈ A') (hsub : ∀ z ∈ A, z.dest ≠ d → z ∈ A') (hasc : Asc A') (hlen : A'.length ≤ 8) :
    MT me T M (updP f d (some N)) (fun e => if e = d then .slice none 0 0 else g e) A' w' ∧ ∀ k, TIn T M (updP f d (some N)) (fun e => if e = d then .slice none 0 0 else g e) A' k → TIn T M f g A k ∨ k = N := by
  have hMis : ∃ es cl, w.heap[M]? = some (.map es cl) := by
    obtain ⟨D, ⟨es, cl, hm, _⟩, _⟩ := h.map
    exact ⟨es, cl, hm⟩
  obtain ⟨es, cl, hMm⟩ := hMis
  have hTM : T ≠ M := fun e => by
    have := h.blk
    unfold TbB at this
    rw [e, hMm] at this
    cases this
  have hfo : ∀ z : Rt, z.dest ≠ d → updP f d (some N) z.dest = f z.dest := fun z hz => if_neg hz
  have hfd : ∀ z : Rt, z.dest = d → updP f d (some N) z.dest = some N := fun z hz => if_pos hz
  have hgo : ∀ z : Rt, z.dest ≠ d → (if z.dest = d then Value.slice none 0 0 else g z.dest) = g z.dest := fun z hz => if_neg hz
  have hgd : ∀ z : Rt, z.dest = d → (if z.dest = d then Value.slice none 0 0 else g z.dest) = Value.slice none 0 0 := fun z hz => if_pos hz
  refine ⟨⟨h.blk.block (hk T h.blk.lt hTM), hm, hasc, ?_, ?_, ?_, ?_, ?_, hlen⟩, ?_⟩
  · intro z hz
    rcases hmem z hz with rfl | ⟨hzA, _⟩
    · exact hok
    · exact h.ok z hzA
  · intro e B he hf
    by_cases hed : e = d
    · exact ⟨y, hy, by rw [hyd, hed]⟩
    · unfold updP at hf
      rw [if_neg hed] at hf
      obtain ⟨z, hz, hze⟩ := h.dom e B he hf
      exact ⟨z, hsub z hz (by rw [hze]; exact hed), hze⟩
  · intro z hz
    rcases hmem z hz with rfl | ⟨hzA, hzd⟩
    · refine ⟨N, hfd z hyd, ?_⟩
      rw [hgd z hyd]
      exact hL
    · obtain ⟨B, h1, h2⟩ := h.ln z hzA
      refine ⟨B, by rw [hfo z hzd]; exact h1, ?_⟩
      rw [hgo z hzd]
      refine h2.block (hk B h2.lt fun e => ?_)
      subst e
      unfold LnB at h2
      rw [hMm] at h2
      cases h2
  · intro z hz
    rcases hmem z hz with rfl | ⟨hzA, hzd⟩
    · rw [hgd z hyd, hbef]
      exact ⟨rfl, .inl ⟨rfl, rfl⟩⟩
    · rw [hgo z hzd]
      exact row_at (h.row z hzA) fun k hk' => hk k ((h.row z hzA).lt k hk').2 (fun e => by
        subst e
        exact row_not (h.row z hzA) hMm (fun c e => by cases e) hk')
  · intro a ha b hb hab
    rcases hmem a ha with rfl | ⟨haA, had⟩
    · rw [hgd a hyd]
      exact .inl rfl
    · rw [hgo a had]
      rcases hmem b hb with rfl | ⟨hbA, hbd⟩
      · rw [hgd b hyd]
        cases (g a.dest).ownBlock <;> simp [Value.ownBlock]
      · rw [hgo b hbd]
        exact h.apart a haA b hbA hab
  · intro k hk'
    rcases hk' with rfl | rfl | ⟨z, hz, hk' | hk'⟩
    · exact .inl (.inl rfl)
    · exact .inl (.inr (.inl rfl))
    · rcases hmem z hz with rfl | ⟨hzA, hzd⟩
      · rw [hfd z hyd] at hk'
        exact .inr (Option.some.inj hk').symm
      · rw [hfo z hzd] at hk'
        exact .inl (.inr (.inr ⟨z, hzA, .inl hk'⟩))
    · dsimp only at hk'
      rcases hmem z hz with rfl | ⟨hzA, hzd⟩
      · rw [hgd z hyd] at hk'
        cases hk'
      · rw [hgo z hzd] at hk'
        exact .inl (.inr (.inr ⟨z, hzA, .inr hk'⟩))

/-- What Update's test of ranks holds on to. -/
@[reducible] def UpS (N B : Nat) (y x : Rt) (v : Value) (W0 W : World) : Prop :=
  (W.cell? ⟨N, 0, none⟩ = some (.int .u32 y.dest) ∧ W.cell? ⟨N, 1, none⟩ = some (.int .u32 y.seq) ∧ W.cell? ⟨N, 2, none⟩ = some (.int .i64 y.hops) ∧ W.cell? ⟨N, 3, none⟩ = some (.int .u32 y.next) ∧ W.cell? ⟨N, 4, none⟩ = some (.bool y.valid) ∧ W.cell? ⟨N, 5, none⟩ = some (.int .u64 y.exp) ∧ W.cell? ⟨N, 6, none⟩ = some (.slice none 0 0)) ∧
  (W.cell? ⟨B, 0, none⟩ = some (.int .u32 x.dest) ∧ W.cell? ⟨B, 1, none⟩ = some (.int .u32 x.seq) ∧ W.cell? ⟨B, 2, none⟩ = some (.int .i64 x.hops) ∧ W.cell? ⟨B, 3, none⟩ = some (.int .u32 x.next) ∧ W.cell? ⟨B, 4, none⟩ = some (.bool x.valid) ∧ W.cell? ⟨B, 5, none⟩ = some (.int .u64 x.exp) ∧ W.cell? ⟨B, 6, none⟩ = some v) ∧
  Below W0.heap.size W0 W
theorem UpS.start {N B : Nat} {y x : Rt} {v : Value} {W0 : World} (h1 : LnB N y (.slice none 0 0) W0) (h2 : LnB B x v W0) : UpS N B y x v W0 W0 := ⟨h1.cell, h2.cell, Below.refl _ _⟩
theorem UpS.drew {N B : Nat} {y x : Rt} {v : Value} {W0 W : World} (h : UpS N B y x v W0 W) : UpS N B y x v W0 W.drew := ⟨h.1, h.2.1, h.2.2.trans ⟨rfl, rfl, rfl, Nat.le_refl _, fun _ _ => rfl⟩⟩
theorem UpS.below {N B : Nat} {y x : Rt} {v : Value} {W0 W W1 : World} (h1 : LnB N y (.slice none 0 0) W0) (h2 : LnB B x v W0) (h : UpS N B y x v W0 W) (hb : Below W.heap.size W W1) : UpS N B y x v W0 W1 := by
  have hbb := h.2.2.trans (hb.mono h.2.2.size)
  exact ⟨(h1.later hbb).cell, (h2.later hbb).cell, hbb⟩
theorem UpS.mk' {N B : Nat} {y x : Rt} {v : Value} {W0 W : World} (h1 : LnB N y (.slice none 0 0) W0) (h2 : LnB B x v W0) (hb : Below W0.heap.size W0 W) : UpS N B y x v W0 W := ⟨(h1.later hb).cell, (h2.later hb).cell, hb⟩

end Go.Proofs.YtakaadcpaeiccabGreat

namespace Go.Proofs.YtakaadcpaeiccabGreat
open Go.RowKit Go.Maps

/-- The new table, laid in memory. -/
theorem Tab.fresh {me : Int} {T M : Nat} {f : Int → Option Nat} {g : Int → Value} {A : List Rt} {S : Nat → Prop} {w w' : World} (hM : MT me T M f g A w) (hS : ∀ k, TIn T M f g A k → S k) {y : Rt} (hok : y.Ok) (hbef : y.bef = []) {A' : List Rt} (hL : LnB w.heap.size y (.slice none 0 0) w') (hm : MapP w' M (updP f y.dest (some w.heap.size)) A'.length) (hg : w.grownBy w' (some M))
    (hmem : ∀ z ∈ A', z = y ∨ (z ∈ A ∧ z.dest ≠ y.dest)) (hy : y ∈ A') (hsub : ∀ z ∈ A, z.dest ≠ y.dest → z ∈ A') (hasc : Asc A') (hlen : A'.length ≤ 8) : Tab me T (ext S w.heap.size w'.heap.size) A' w' ∧ Fx S w w' := by
  obtain ⟨h1, h2⟩ := hM.fresh rfl hok hbef (Nat.le_refl _) hL hm (fun k hk hkM => hg.block k hk (fun e => hkM (by cases e; rfl))) hmem hy hsub hasc hlen
  refine ⟨⟨M, _, _, h1, fun k hk => ?_⟩, Fx.grown hg (fun k e => by cases e; exact hS _ (.inr (.inl rfl)))⟩
  rcases h2 k hk with h3 | rfl
  · exact .inl (hS k h3)
  · exact .inr ⟨Nat.le_refl _, hL.lt⟩
end Go.Proofs.YtakaadcpaeiccabGreat

namespace Go.Proofs.YtakaadcpaeiccabGreat
open Go.RowKit Go.Maps

def befF (n : Int) (y : Rt) : Rt := if y.valid = true ∧ y.bef.length < 4 ∧ n ∉ y.bef then { y with bef := insU n y.bef } else y
def befL (A : List Rt) (d n : Int) : List Rt := modL A d (befF n)
end Go.Proofs.YtakaadcpaeiccabGreat

namespace Go.Proofs.YtakaadcpaeiccabGreat
open Go.RowKit Go.Sort

theorem uInner_go (a j : Nat) (d : Array Int) (hj : a < j) (hl : ltInt d[j]! d[j - 1]! = true) : insInner ltInt a j d = insInner ltInt a (j - 1) (swp d j (j - 1)) := by
  match j, hj with
  | k + 1, hj =>
    rw [insInner]
    simp only [Nat.add_sub_cancel] at hl ⊢
    rw [if_pos]
    simp [hj, hl]
theorem uInner_stop (a j : Nat) (d : Array Int) (h : j ≤ a ∨ ltInt d[j]! d[j - 1]! = false) : insInner ltInt a j d = d := by
  match j with
  | 0 => rw [insInner]
  | k + 1 =>
    rw [insInner]
    simp only [Nat.add_sub_cancel] at h
    rw [if_neg]
    rcases h with h | h
    · simp; omega
    · simp [h]
theorem uOuter_go (a b i : Nat) (d : Array Int) (h : i < b) : insOuter ltInt a b i d = insOuter ltInt a b (i + 1) (insInner ltInt a i d) := by rw [insOuter, if_pos h]
theorem uOuter_stop (a b i : Nat) (d : Array Int) (h : ¬ i < b) : insOuter ltInt a b i d = d := by rw [insOuter, if_neg h]

set_option maxRecDepth 100000 in
set_option maxHeartbeats 4000000 in
theorem insertion_any (base g cap n a b : Nat) (d : Array Int) (w : World) (h : SR base g cap n d w) (hab : a ≤ b) (hb : b ≤ n) (hn : n ≤ 1000000) :
    Calls Tryz.prog 183 #[.slice (some ⟨g, 0, none⟩) n cap, .int .i64 a, .int .i64 b] w fun e w' => e = .returned (.tuple #[]) ∧ SR base g cap n (insertionSort ltInt d a b) w' ∧ w.grownBy w' (some g) := by
  go_enter Tryz.func183, Tryz.ntmps183
  go_wp2_with fail
  go_loopw [6] (fun vi wr => ∃ (i : Nat) (dk : Array Int), vi = .int .i64 i ∧ a < i ∧ i ≤ b + 1 ∧ SR base g cap n dk wr ∧ w.grownBy wr (some g) ∧ insOuter ltInt a b i dk = insertionSort ltInt d a b) (fun vi _ => b + 1 - (intOf vi).toNat)
  case atStart => exact ⟨a + 1, d, by go_num, by omega, by omega, h, grn_rfl _ _, rfl⟩
  case round =>
    clear h
    obtain ⟨i, dk, rfl, hai, hib, h, hg, hO⟩ := hrel
    have HO := (show Hid _ from hO)
    clear hO
    by_cases hlt : i < b
    · have hix : (i : Int) < (b : Int) := by omega
      go_wp2_with fail
      go_loopw [7] (fun vj wr2 => ∃ (j : Nat) (dj : Array Int), vj = .int .i64 j ∧ a ≤ j ∧ j ≤ i ∧ SR base g cap n dj wr2 ∧ w.grownBy wr2 (some g) ∧ insInner ltInt a j dj = insInner ltInt a i dk) (fun vj _ => (intOf vj).toNat)
      case atStart => exact ⟨i, dk, rfl, by omega, Nat.le_refl _, h, hg, rfl⟩
      case round =>
        clear h hg
        obtain ⟨j, dj, rfl, haj, hji, h, hg, hI⟩ := hrel
        have hjn : (j : Int) < (n : Int) := by omega
        have hj1n : (j : Int) - 1 < (n : Int) := by omega
        by_cases hja : a < j
        · have hjp : (1 : Int) ≤ (j : Int) := by omega
          have c0 := h.cell (j := j) (by omega)
          have c1 := h.cell (j := j - 1) (by omega)
          have f0 := h.free j
          have f1 := h.free (j - 1)
          have hq : (j : Int) - 1 = ((j - 1 : Nat) : Int) := by omega
          have hs := h.swap j (j - 1)
          have hgs := fun u v => grown_swap wr g j (j - 1) u v
          have hgo := uInner_go a j dj hja
          have hst := uInner_stop a j dj
          generalize hX : dj[j]! = X at c0 hs hgo hst
          generalize hY : dj[j - 1]! = Y at c1 hs hgo hst
          have hJn : ((j - 1 : Nat) : Int) < (n : Int) := by omega
          have hj0 : (0 : Int) ≤ (j : Int) - 1 := by omega
          generalize hJ : j - 1 = J at c1 f1 hq hs hgs hgo hst hJn
          have HJ := (show Hid _ from hJ)
          have HI := (show Hid _ from hI)
          have HS := (show Hid _ from hst)
          clear hJ hI hst
          have hdj : decide (a < j) = true := decide_eq_true hja
          go_wp2_with fail
          go_quiet (first | (go_at_call 189; refine Calls.quiet_of_same (Less_any _ _ _)))
          cases hl : ltInt X Y
          · go_wp2
            go_roundw
            case rel => exact ⟨i + 1, dj, by go_num, by omega, by omega, h.drewN _, hg.trans (grown_dN _ _ _), by rw [← HO.out, uOuter_go _ _ _ _ hlt, ← HI.out, HS.out (.inr hl)]⟩
            case measure => simp [intOf]; omega
          · have hs' := (h.drewN (nq + 1)).swap j J
            have hg' := hg.trans ((grown_dN wr (nq + 1) (some g)).trans (grown_swap _ g j J (.int .u32 dj[J]!) (.int .u32 dj[j]!)))
            rw [hX, ← HJ.out, hY, HJ.out] at hs' hg'
            have hJj : J + 1 = j := by have := HJ.out; omega
            clear hX hY
            go_wp2_with fail
            go_region
            all_goals go_wp2
            go_roundw
            case rel => exact ⟨J, swp dj j J, rfl, by omega, by omega, hs', hg', by rw [← HI.out, hgo hl]⟩
            case measure => simp [intOf]; omega
        · have hdj : decide (a < j) = false := decide_eq_false hja
          have hst := uInner_stop a j dj (.inl (by omega))
          go_wp2_with fail
          go_quiet (fail)
          go_wp2
          go_roundw
          case rel => exact ⟨i + 1, dj, by go_num, by omega, by omega, h.drewN _, hg.trans (grown_dN _ _ _), by rw [← HO.out, uOuter_go _ _ _ _ hlt, ← hI, hst]⟩
          case measure => simp [intOf]; omega
    · have hend : insOuter ltInt a b i dk = dk := uOuter_stop a b i dk hlt
      rw [HO.out] at hend
      rw [← hend] at h
      go_wp2
      go_returns
      exact ⟨rfl, h, hg⟩
end Go.Proofs.YtakaadcpaeiccabGreat

namespace Go.Proofs.YtakaadcpaeiccabGreat
open Go.RowKit Go.Sort

theorem uDown_end (hi first root : Nat) (d : Array Int) (h : ¬ 2 * root + 1 < hi) : siftDown ltInt hi first root d = d := by
  rw [siftDown, dif_pos (by omega)]
/-- The greater of the two below. -/
def chd (hi first root : Nat) (d : Array Int) : Nat := if 2 * root + 1 + 1 < hi ∧ ltInt d[first + (2 * root + 1)]! d[first + (2 * root + 1) + 1]! = true then 2 * root + 2 else 2 * root + 1
theorem chd_b (hi first root : Nat) (d : Array Int) (h : 2 * root + 1 < hi) : root < chd hi first root d ∧ chd hi first root d < hi := by
  unfold chd
  split <;> omega
theorem uDown_go (hi first root : Nat) (d : Array Int) (h : 2 * root + 1 < hi) :
    siftDown ltInt hi first root d = if ltInt d[first + root]! d[first + chd hi first root d]! = true then siftDown ltInt hi first (chd hi first root d) (swp d (first + root) (first + chd hi first root d)) else d := by
  rw [siftDown, dif_neg (by omega)]
  unfold chd
  by_cases h1 : 2 * root + 1 + 1 < hi ∧ ltInt d[first + (2 * root + 1)]! d[first + (2 * root + 1) + 1]! = true
  · rw [if_pos h1, if_pos (by simp [h1.1, h1.2])]
    cases h2 : ltInt d[first + root]! d[first + (2 * root + 2)]!
    · simp
    · simp only [Bool.not_true, Bool.false_eq_true, if_false, if_true]
      rw [dif_pos (by omega)]
  · rw [if_neg h1, if_neg (by simpa using h1)]
    cases h2 : ltInt d[first + root]! d[first + (2 * root + 1)]! <;> simp

set_option maxRecDepth 100000 in
set_option maxHeartbeats 4000000 in
theorem siftDown_any (base g cap n lo hi first : Nat) (d : Array Int) (w : World) (h : SR base g cap n d w) (hb : first + hi ≤ n) (hlo : lo ≤ n) (hn : n ≤ 1000000) :
    Calls Tryz.prog 199 #[.slice (some ⟨g, 0, none⟩) n cap, .int .i64 lo, .int .i64 hi, .int .i64 first] w fun e w' => e = .returned (.tuple #[]) ∧ SR base g cap n (siftDown ltInt hi first lo d) w' ∧ w.grownBy w' (some g) := by
  go_enter Tryz.func199, Tryz.ntmps199
  go_wp2_with fail
  go_loopw [8] (fun vr wr => ∃ (r : Nat) (dk : Array Int), vr = .int .i64 r ∧ r ≤ n ∧ SR base g cap n dk wr ∧ w.grownBy wr (some g) ∧ siftDown ltInt hi first r dk = siftDown ltInt hi first lo d) (fun vr _ => 2 * n - (intOf vr).toNat)
  case atStart => exact ⟨lo, d, rfl, hlo, h, grn_rfl _ _, rfl⟩
  case round =>
    clear h
    obtain ⟨r, dk, rfl, hr, h, hg, hO⟩ := hrel
    have HO := (show Hid _ from hO)
    clear hO
    by_cases hlt : 2 * r + 1 < hi
    · have hgo := uDown_go hi first r dk hlt
      obtain ⟨hc1, hc2⟩ := chd_b hi first r dk hlt
      have hd1 : decide ((hi : Int) ≤ 2 * (r : Int) + 1) = false := decide_eq_false (by omega)
      obtain ⟨C0, hC0⟩ : ∃ C0, C0 = 2 * r + 1 := ⟨_, rfl⟩
      have hq : 2 * (r : Int) + 1 = (C0 : Int) := by omega
      have hC1 : C0 < hi := by omega
      have hC2 : r < C0 := by omega
      rw [hq] at hd1
      have hcd : chd hi first r dk = if C0 + 1 < hi ∧ ltInt dk[first + C0]! dk[first + C0 + 1]! = true then C0 + 1 else C0 := by
        unfold chd
        subst hC0
        rfl
      clear hC0
      have cA := h.cell (j := first + C0) (by omega)
      have hfA : (first : Int) + (C0 : Int) < (n : Int) := by omega
      by_cases h2 : C0 + 1 < hi
      · have hd2 : decide ((C0 : Int) + 1 < (hi : Int)) = true := decide_eq_true (by omega)
        have hd2' : decide (C0 + 1 < hi) = true := decide_eq_true h2
        have cB := h.cell (j := first + C0 + 1) (by omega)
        have hfB : (first : Int) + (C0 : Int) + 1 < (n : Int) := by omega
        generalize dk[first + C0]! = P at cA hcd
        generalize dk[first + C0 + 1]! = Q at cB hcd
        have HCD := (show Hid _ from hcd)
        have HGO0 := (show Hid _ from hgo)
        clear hcd hgo
        go_wp2_with fail
        go_quiet (first | (go_at_call 189; refine Calls.quiet_of_same (Less_any _ _ _)))
        have hcd := HCD.out
        have hgo := HGO0.out
        cases hlt1 : ltInt P Q
        · have hchd : chd hi first r dk = C0 := by rw [hcd, if_neg (by simp [hlt1])]
          clear hcd HCD HGO0
          rw [hchd] at hc1 hc2
          have h1 := h.drewN nq
          have hg1 := hg.trans (grown_dN wr nq (some g))
          generalize wr.drewN nq = W1 at h1 hg1 ⊢
          clear h hg cA cB
          have cR := h1.cell (j := first + r) (by omega)
          have cC := h1.cell (j := first + C0) (by omega)
          have fR := h1.free (first + r)
          have fC := h1.free (first + C0)
          rw [hchd] at hgo
          have hs' := fun q => (h1.drewN q).swap (first + r) (first + C0)
          have hg' := fun q => hg1.trans ((grown_dN W1 q (some g)).trans (grown_swap _ g (first + r) (first + C0) (.int .u32 dk[first + C0]!) (.int .u32 dk[first + r]!)))
          generalize dk[first + r]! = X at cR hgo hs' hg'
          generalize dk[first + C0]! = Y at cC hgo hs' hg'
          have hfr : (first : Int) + (r : Int) < (n : Int) := by omega
          have hfc : (first : Int) + (C0 : Int) < (n : Int) := by omega
          have HGO := (show Hid _ from hgo)
          clear hgo hchd
          go_wp2_with fail
          go_quiet (first | (go_at_call 189; refine Calls.quiet_of_same (Less_any _ _ _)))
          cases hl : ltInt X Y
          · have hend := HGO.out
            rw [hl] at hend
            simp only [Bool.false_eq_true, if_false] at hend
            rw [HO.out] at hend
            rw [← hend] at h1
            go_wp2
            go_returns
            exact ⟨rfl, h1.drewN _, hg1.trans (grown_dN _ _ _)⟩
          · have hend := HGO.out
            rw [hl, HO.out] at hend
            simp only [if_true] at hend
            replace hs' := hs' (nq + 1)
            replace hg' := hg' (nq + 1)
            go_wp2_with fail
            go_region
            all_goals go_wp2
            go_roundw
            case rel => exact ⟨C0, swp dk (first + r) (first + C0), by first | rfl | (congr 1; omega), by omega, hs', hg', hend.symm⟩
            case measure => simp [intOf]; omega
        · have hchd : chd hi first r dk = C0 + 1 := by rw [hcd, if_pos ⟨h2, hlt1⟩]
          clear hcd HCD HGO0
          obtain ⟨c, hc⟩ : ∃ c, c = C0 + 1 := ⟨_, rfl⟩
          have hcc : (C0 : Int) + 1 = (c : Int) := by omega
          rw [← hc] at hchd
          rw [hchd] at hc1 hc2
          have hc3 : c < hi := by omega
          clear hc
          have h1 := h.drewN nq
          have hg1 := hg.trans (grown_dN wr nq (some g))
          generalize wr.drewN nq = W1 at h1 hg1 ⊢
          clear h hg cA cB
          have cR := h1.cell (j := first + r) (by omega)
          have cC := h1.cell (j := first + c) (by omega)
          have fR := h1.free (first + r)
          have fC := h1.free (first + c)
          rw [hchd] at hgo
          have hs' := fun q => (h1.drewN q).swap (first + r) (first + c)
          have hg' := fun q => hg1.trans ((grown_dN W1 q (some g)).trans (grown_swap _ g (first + r) (first + c) (.int .u32 dk[first + c]!) (.int .u32 dk[first + r]!)))
          generalize dk[first + r]! = X at cR hgo hs' hg'
          generalize dk[first + c]! = Y at cC hgo hs' hg'
          have hfr : (first : Int) + (r : Int) < (n : Int) := by omega
          have hfc : (first : Int) + (c : Int) < (n : Int) := by omega
          have HGO := (show Hid _ from hgo)
          clear hgo hchd
          go_wp2_with fail
          go_quiet (first | (go_at_call 189; refine Calls.quiet_of_same (Less_any _ _ _)))
          cases hl : ltInt X Y
          · have hend := HGO.out
            rw [hl] at hend
            simp only [Bool.false_eq_true, if_false] at hend
            rw [HO.out] at hend
            rw [← hend] at h1
            go_wp2
            go_returns
            exact ⟨rfl, h1.drewN _, hg1.trans (grown_dN _ _ _)⟩
          · have hend := HGO.out
            rw [hl, HO.out] at hend
            simp only [if_true] at hend
            replace hs' := hs' (nq + 1)
            replace hg' := hg' (nq + 1)
            go_wp2_with fail
            go_region
            all_goals go_wp2
            go_roundw
            case rel => exact ⟨c, swp dk (first + r) (first + c), by first | rfl | (congr 1; omega), by omega, hs', hg', hend.symm⟩
            case measure => simp [intOf]; omega
      · have hd2 : decide ((C0 : Int) + 1 < (hi : Int)) = false := decide_eq_false (by omega)
        have hd2' : decide (C0 + 1 < hi) = false := decide_eq_false h2
        have cB := cA
        have hchd : chd hi first r dk = C0 := by rw [hcd, if_neg (fun e => h2 e.1)]
        have HGO0 := (show Hid _ from hgo)
        have HCH := (show Hid _ from hchd)
        clear hcd hgo hchd
        go_wp2_with fail
        go_quiet (first | (go_at_call 189; refine Calls.quiet_of_same (Less_any _ _ _)))
        have hgo := HGO0.out
        have hchd := HCH.out
        clear HGO0 HCH
        rw [hchd] at hc1 hc2
        have h1 := h.drewN nq
        have hg1 := hg.trans (grown_dN wr nq (some g))
        generalize wr.drewN nq = W1 at h1 hg1 ⊢
        clear h hg cA cB
        have cR := h1.cell (j := first + r) (by omega)
        have cC := h1.cell (j := first + C0) (by omega)
        have fR := h1.free (first + r)
        have fC := h1.free (first + C0)
        rw [hchd] at hgo
        have hs' := fun q => (h1.drewN q).swap (first + r) (first + C0)
        have hg' := fun q => hg1.trans ((grown_dN W1 q (some g)).trans (grown_swap _ g (first + r) (first + C0) (.int .u32 dk[first + C0]!) (.int .u32 dk[first + r]!)))
        generalize dk[first + r]! = X at cR hgo hs' hg'
        generalize dk[first + C0]! = Y at cC hgo hs' hg'
        have hfr : (first : Int) + (r : Int) < (n : Int) := by omega
        have hfc : (first : Int) + (C0 : Int) < (n : Int) := by omega
        have HGO := (show Hid _ from hgo)
        clear hgo hchd
        go_wp2_with fail
        go_quiet (first | (go_at_call 189; refine Calls.quiet_of_same (Less_any _ _ _)))
        cases hl : ltInt X Y
        · have hend := HGO.out
          rw [hl] at hend
          simp only [Bool.false_eq_true, if_false] at hend
          rw [HO.out] at hend
          rw [← hend] at h1
          go_wp2
          go_returns
          exact ⟨rfl, h1.drewN _, hg1.trans (grown_dN _ _ _)⟩
        · have hend := HGO.out
          rw [hl, HO.out] at hend
          simp only [if_true] at hend
          replace hs' := hs' (nq + 1)
          replace hg' := hg' (nq + 1)
          go_wp2_with fail
          go_region
          all_goals go_wp2
          go_roundw
          case rel => exact ⟨C0, swp dk (first + r) (first + C0), by first | rfl | (congr 1; omega), by omega, hs', hg', hend.symm⟩
          case measure => simp [intOf]; omega
    · have hend : siftDown ltInt hi first r dk = dk := uDown_end hi first r dk hlt
      rw [HO.out] at hend
      rw [← hend] at h
      have hd1 : decide ((hi : Int) ≤ 2 * (r : Int) + 1) = true := decide_eq_true (by omega)
      go_wp2
      go_returns
      exact ⟨rfl, h, hg⟩
end Go.Proofs.YtakaadcpaeiccabGreat

namespace Go.Proofs.YtakaadcpaeiccabGreat
open Go.RowKit Go.Sort

set_option maxRecDepth 100000 in
set_option maxHeartbeats 4000000 in
theorem heapSort_any (base g cap n a b : Nat) (d : Array Int) (w : World) (h : SR base g cap n d w) (hab : a < b) (hb : b ≤ n) (hn : n ≤ 1000000) :
    Calls Tryz.prog 184 #[.slice (some ⟨g, 0, none⟩) n cap, .int .i64 a, .int .i64 b] w fun e w' => e = .returned (.tuple #[]) ∧ SR base g cap n (heapSort ltInt d a b) w' ∧ w.grownBy w' (some g) := by
  obtain ⟨H, hH⟩ : ∃ H, H = b - a := ⟨_, rfl⟩
  obtain ⟨H2, hH2⟩ : ∃ H2, H2 = (H - 1) / 2 := ⟨_, rfl⟩
  have hq1 : (b : Int) - (a : Int) = (H : Int) := by omega
  have hq2 : ((H : Int) - 1) / 2 = (H2 : Int) := by omega
  have hHn : a + H ≤ n := by omega
  have hH2n : H2 < H := by omega
  have hH1 : (1 : Int) ≤ (H : Int) := by omega
  have hdef : heapSort ltInt d a b = heapPop ltInt a H (heapBuild ltInt H a (H2 + 1) d) := by
    subst hH2; subst hH
    rfl
  have HD := (show Hid _ from hdef)
  clear hdef hH hH2
  go_enter Tryz.func184, Tryz.ntmps184
  go_wp2_with fail
  rw [hq2]
  go_loopw [9] (fun vi wr => ∃ (k : Nat) (iv : Int) (dk : Array Int), vi = .int .i64 iv ∧ iv = (k : Int) - 1 ∧ k ≤ H2 + 1 ∧ SR base g cap n dk wr ∧ w.grownBy wr (some g) ∧ heapBuild ltInt H a k dk = heapBuild ltInt H a (H2 + 1) d) (fun vi _ => (intOf vi + 1).toNat)
  case atStart => exact ⟨H2 + 1, H2, d, rfl, by omega, Nat.le_refl _, h, grn_rfl _ _, rfl⟩
  case round =>
    clear h
    obtain ⟨k, iv, dk, rfl, hiv, hk, h, hg, hO⟩ := hrel
    have HO := (show Hid _ from hO)
    clear hO
    match k with
    | k + 1 =>
      obtain rfl : iv = (k : Int) := by omega
      have hd : decide ((0 : Int) ≤ (k : Int)) = true := decide_eq_true (by omega)
      have hs := siftDown_any base g cap n k H a dk wr h hHn (by omega) hn
      clear hiv
      go_wp2_with fail
      refine hs.mono ?_
      rintro e w1 ⟨rfl, h1, hg1⟩
      clear hs
      have hg2 := hg.trans hg1
      go_wp2
      go_roundw
      case rel =>
        first
          | exact ⟨k, (k : Int) - 1, _, rfl, rfl, by omega, h1, hg2, by rw [← HO.out]; rfl⟩
          | ((repeat apply Exists.intro); refine ⟨?_, rfl⟩; exact ⟨k, (k : Int) - 1, _, rfl, rfl, by omega, h1, hg2, by rw [← HO.out]; rfl⟩)
      case measure => simp [intOf] <;> omega
    | 0 =>
      obtain rfl : iv = -1 := by omega
      have hdk : heapSort ltInt d a b = heapPop ltInt a H dk := by
        rw [HD.out, ← HO.out]
        rfl
      have HK := (show Hid _ from hdk)
      clear hdk hiv HO HD
      go_wp2_with fail
      go_loopw [10] (fun vi wr => ∃ (k : Nat) (iv : Int) (dj : Array Int), vi = .int .i64 iv ∧ iv = (k : Int) - 1 ∧ k ≤ H ∧ SR base g cap n dj wr ∧ w.grownBy wr (some g) ∧ heapPop ltInt a k dj = heapSort ltInt d a b) (fun vi _ => (intOf vi + 1).toNat)
      case atStart => exact ⟨H, (H : Int) - 1, dk, rfl, rfl, Nat.le_refl _, h, hg, HK.out.symm⟩
      case round =>
        clear h hg
        obtain ⟨k, iv, dj, rfl, hiv, hk, h, hg, hO⟩ := hrel
        have HO := (show Hid _ from hO)
        clear hO
        match k with
        | k + 1 =>
          obtain rfl : iv = (k : Int) := by omega
          have hd : decide ((0 : Int) ≤ (k : Int)) = true := decide_eq_true (by omega)
          have cR := h.cell (j := a) (by omega)
          have cC := h.cell (j := a + k) (by omega)
          have fR := h.free a
          have fC := h.free (a + k)
          have hs' := (h.drewN 1).swap a (a + k)
          have hg' := hg.trans ((grown_dN _ 1 (some g)).trans (grown_swap _ g a (a + k) (.int .u32 dj[a + k]!) (.int .u32 dj[a]!)))
          have hfr : (a : Int) < (n : Int) := by omega
          have hfc : (a : Int) + (k : Int) < (n : Int) := by omega
          have hsift := fun W d' (h' : SR base g cap n d' W) => siftDown_any base g cap n 0 k a d' W h' (by omega) (by omega) hn
          have HF := (show Hid _ from hsift)
          clear hiv h hg hsift
          by_cases hk0 : k = 0
          · subst hk0
            rw [Nat.add_zero] at cC fC hs' hg'
            have HSW := (show Hid _ from hs')
            have HGW := (show Hid _ from hg')
            clear hs' hg'
            generalize dj[a]! = X at cR HSW HGW
            clear cC fC
            go_wp2_with fail
            go_region
            all_goals
              have hs := HF.out _ _ HSW.out
              have HS := (show Hid _ from hs)
              clear hs cR fR
              go_wp2_with fail
              refine Calls.mono HS.out ?_
              rintro e w1 ⟨rfl, h1, hg1⟩
              clear HS
              have hg2 := HGW.out.trans hg1
              clear hg1
              go_wp2
              go_roundw
              case rel =>
                first
                  | exact ⟨0, -1, _, rfl, rfl, by omega, h1, hg2, by rw [← HO.out]; rfl⟩
                  | ((repeat apply Exists.intro); refine ⟨?_, rfl⟩; exact ⟨0, -1, _, rfl, rfl, by omega, h1, hg2, by rw [← HO.out]; rfl⟩)
              case measure => simp [intOf] <;> omega
          · generalize dj[a]! = X at cR hs' hg'
            generalize dj[a + k]! = Y at cC hs' hg'
            have hne : ¬ a = a + k := by omega
            go_wp2_with fail
            go_region
            all_goals
              have hs := HF.out _ _ hs'
              have HS := (show Hid _ from hs)
              clear hs hs' cR cC fR fC
              go_wp2_with fail
              refine Calls.mono HS.out ?_
              rintro e w1 ⟨rfl, h1, hg1⟩
              clear HS
              have hg2 := hg'.trans hg1
              clear hg' hg1
              go_wp2
              go_roundw
              case rel =>
                first
                  | exact ⟨k, (k : Int) - 1, _, rfl, rfl, by omega, h1, hg2, by rw [← HO.out]; rfl⟩
                  | ((repeat apply Exists.intro); refine ⟨?_, rfl⟩; exact ⟨k, (k : Int) - 1, _, rfl, rfl, by omega, h1, hg2, by rw [← HO.out]; rfl⟩)
              case measure => simp [intOf] <;> omega
        | 0 =>
          obtain rfl : iv = -1 := by omega
          have hend : dj = heapSort ltInt d a b := HO.out
          rw [hend] at h
          clear hiv HO HK
          go_wp2
          go_returns
          exact ⟨rfl, h, hg⟩

theorem uRev_go (i j : Nat) (d : Array Int) (h : i < j) : reverseLoop i j d = reverseLoop (i + 1) (j - 1) (swp d i j) := by rw [reverseLoop, if_pos h]
theorem uRev_stop (i j : Nat) (d : Array Int) (h : ¬ i < j) : reverseLoop i j d = d := by rw [reverseLoop, if_neg h]

set_option maxRecDepth 100000 in
set_option maxHeartbeats 4000000 in
theorem reverse_any (base g cap n a b : Nat) (d : Array Int) (w : World) (h : SR base g cap n d w) (hab : a < b) (hb : b ≤ n) (hn : n ≤ 1000000) :
    Calls Tryz.prog 187 #[.slice (some ⟨g, 0, none⟩) n cap, .int .i64 a, .int .i64 b] w fun e w' => e = .returned (.tuple #[]) ∧ SR base g cap n (reverseRange d a b) w' ∧ w.grownBy w' (some g) := by
  go_enter Tryz.func187, Tryz.ntmps187
  go_wp2_with fail
  go_loopw [6, 7] (fun vi vj wr => ∃ (i j : Nat) (dk : Array Int), vi = .int .i64 i ∧ vj = .int .i64 j ∧ i ≤ n ∧ j < n ∧ SR base g cap n dk wr ∧ w.grownBy wr (some g) ∧ reverseLoop i j dk = reverseRange d a b) (fun _ vj _ => (intOf vj).toNat)
  case atStart => exact ⟨a, b - 1, d, rfl, by congr 1; omega, by omega, by omega, h, grn_rfl _ _, rfl⟩
  case round =>
    clear h
    obtain ⟨i, j, dk, rfl, rfl, hi, hj, h, hg, hO⟩ := hrel
    have HO := (show Hid _ from hO)
    clear hO
    by_cases hij : i < j
    · have hgo := uRev_go i j dk hij
      rw [HO.out] at hgo
      have cR := h.cell (j := i) (by omega)
      have cC := h.cell (j := j) (by omega)
      have fR := h.free i
      have fC := h.free j
      have hs' := (h.drewN 1).swap i j
      have hg' := hg.trans ((grown_dN _ 1 (some g)).trans (grown_swap _ g i j (.int .u32 dk[j]!) (.int .u32 dk[i]!)))
      generalize dk[i]! = X at cR hs' hg'
      generalize dk[j]! = Y at cC hs' hg'
      have hfr : (i : Int) < (n : Int) := by omega
      have hfc : (j : Int) < (n : Int) := by omega
      have HG := (show Hid _ from hgo)
      clear h hg hgo
      go_wp2_with fail
      go_region
      all_goals
        go_wp2
        go_roundw
        case rel => exact ⟨i + 1, j - 1, _, by go_num, by congr 1; omega, by omega, by omega, hs', hg', HG.out.symm⟩
        case measure => simp [intOf]; omega
    · have hend := uRev_stop i j dk hij
      rw [HO.out] at hend
      rw [← hend] at h
      go_wp2
      go_returns
      exact ⟨rfl, h, hg⟩
end Go.Proofs.YtakaadcpaeiccabGreat
