import Derived.Test.YtpdjhcfkhblioaaF13
import Derived.Test.YtpdjhcfkhblioaaF8
import Derived.Test.YtpdjhcfkhblioaaGJ
namespace Go.Proofs.Ytpdjhcfkhblioaa
open Go.RowKit Go.Maps

/-- Both tables in memory, apart from each other and from the blocks X; A: the program's lines, B: the document's. -/
def RdQ (me : Int) (T1 T2 : Nat) (w : World) (X : Nat → Prop) (A B : List Rt) (W : World) : Prop :=
  ∃ S1 S2 : Nat → Prop, Tab me T1 S1 A W ∧ RTab me T2 S2 B W ∧ (∀ q, S1 q → w.heap.size ≤ q ∧ q < W.heap.size) ∧ (∀ q, S2 q → w.heap.size ≤ q ∧ q < W.heap.size) ∧ (∀ q, S1 q → ¬ S2 q) ∧ (∀ q, X q → ¬ S1 q ∧ ¬ S2 q ∧ q < W.heap.size) ∧ Below w.heap.size w W
theorem RdQ.below {me : Int} {T1 T2 : Nat} {w W : World} {X : Nat → Prop} {A B : List Rt} (h : RdQ me T1 T2 w X A B W) : Below w.heap.size w W := by
  obtain ⟨_, _, _, _, _, _, _, _, h⟩ := h
  exact h
theorem RdQ.later {me : Int} {T1 T2 : Nat} {w W W' : World} {X : Nat → Prop} {A B : List Rt} (h : RdQ me T1 T2 w X A B W) (hb : Below W.heap.size W W') : RdQ me T1 T2 w X A B W' := by
  obtain ⟨S1, S2, h1, h2, h3, h4, h5, h6, h7⟩ := h
  have hs := hb.size
  exact ⟨S1, S2, h1.later hb, h2.later hb, fun q hq => ⟨(h3 q hq).1, Nat.lt_of_lt_of_le (h3 q hq).2 hs⟩, fun q hq => ⟨(h4 q hq).1, Nat.lt_of_lt_of_le (h4 q hq).2 hs⟩, h5, fun q hq => ⟨(h6 q hq).1, (h6 q hq).2.1, Nat.lt_of_lt_of_le (h6 q hq).2.2 hs⟩, h7.trans (hb.mono h7.size)⟩
theorem RdQ.lets {me : Int} {T1 T2 : Nat} {w W : World} {X X' : Nat → Prop} {A B : List Rt} (h : RdQ me T1 T2 w X A B W) (hX : ∀ q, X' q → X q) : RdQ me T1 T2 w X' A B W := by
  obtain ⟨S1, S2, h1, h2, h3, h4, h5, h6, h7⟩ := h
  exact ⟨S1, S2, h1, h2, h3, h4, h5, fun q hq => h6 q (hX q hq), h7⟩
/-- Blocks made since lie apart. -/
theorem RdQ.fresh {me : Int} {T1 T2 : Nat} {w W W' : World} {X : Nat → Prop} {A B : List Rt} (h : RdQ me T1 T2 w X A B W) (hb : Below W.heap.size W W') : RdQ me T1 T2 w (fun q => X q ∨ (W.heap.size ≤ q ∧ q < W'.heap.size)) A B W' := by
  obtain ⟨S1, S2, h1, h2, h3, h4, h5, h6, h7⟩ := h
  have hs := hb.size
  refine ⟨S1, S2, h1.later hb, h2.later hb, fun q hq => ⟨(h3 q hq).1, Nat.lt_of_lt_of_le (h3 q hq).2 hs⟩, fun q hq => ⟨(h4 q hq).1, Nat.lt_of_lt_of_le (h4 q hq).2 hs⟩, h5, ?_, h7.trans (hb.mono h7.size)⟩
  rintro q (hq | ⟨h8, h9⟩)
  · exact ⟨(h6 q hq).1, (h6 q hq).2.1, Nat.lt_of_lt_of_le (h6 q hq).2.2 hs⟩
  · exact ⟨fun e => by have := (h3 q e).2; omega, fun e => by have := (h4 q e).2; omega, h9⟩
/-- A call that turns the program's table. -/
theorem RdQ.p {me : Int} {T1 T2 : Nat} {w W : World} {X : Nat → Prop} {A B A' : List Rt} (h : RdQ me T1 T2 w X A B W) {F : FuncId} {args : Array Value} {R : Ending → World → Prop}
    (hc : ∀ S1 : Nat → Prop, Tab me T1 S1 A W → (∀ k, S1 k → k < W.heap.size) → Calls Try.prog F args W fun e w' => R e w' ∧ Tab me T1 (ext S1 W.heap.size w'.heap.size) A' w' ∧ Fx S1 W w') :
    Calls Try.prog F args W fun e w' => R e w' ∧ RdQ me T1 T2 w X A' B w' ∧ (∀ q, X q → w'.heap[q]? = W.heap[q]?) := by
  obtain ⟨S1, S2, h1, h2, h3, h4, h5, h6, h7⟩ := h
  refine (hc S1 h1 (fun k hk => (h3 k hk).2)).mono ?_
  rintro e w' ⟨hR, hT, hf⟩
  have hs := hf.size
  have hs0 := h7.size
  refine ⟨hR, ⟨ext S1 W.heap.size w'.heap.size, S2, hT, h2.kept hf (fun k _ hk hk1 => h5 k hk1 hk), ?_, fun q hq => ⟨(h4 q hq).1, Nat.lt_of_lt_of_le (h4 q hq).2 hs⟩, ?_, ?_, h7.trans (hf.toBelow h7.size (fun k hk hk1 => by have := (h3 k hk1).1; omega))⟩, fun q hq => hf.block q (h6 q hq).2.2 (h6 q hq).1⟩
  · rintro q (hq | hq)
    · exact ⟨(h3 q hq).1, Nat.lt_of_lt_of_le (h3 q hq).2 hs⟩
    · exact ⟨Nat.le_trans hs0 hq.1, hq.2⟩
  · rintro q (hq | hq) hq2
    · exact h5 q hq hq2
    · have := (h4 q hq2).2
      omega
  · intro q hq
    obtain ⟨x1, x2, x3⟩ := h6 q hq
    refine ⟨?_, x2, Nat.lt_of_lt_of_le x3 hs⟩
    rintro (hq1 | hq1)
    · exact x1 hq1
    · omega
/-- A call that turns the document's table. -/
theorem RdQ.r {me : Int} {T1 T2 : Nat} {w W : World} {X : Nat → Prop} {A B B' : List Rt} (h : RdQ me T1 T2 w X A B W) {F : FuncId} {args : Array Value} {R : Ending → World → Prop}
    (hc : ∀ S2 : Nat → Prop, RTab me T2 S2 B W → (∀ k, S2 k → k < W.heap.size) → Calls Try.prog F args W fun e w' => R e w' ∧ RTab me T2 (ext S2 W.heap.size w'.heap.size) B' w' ∧ Fx S2 W w') :
    Calls Try.prog F args W fun e w' => R e w' ∧ RdQ me T1 T2 w X A B' w' ∧ (∀ q, X q → w'.heap[q]? = W.heap[q]?) := by
  obtain ⟨S1, S2, h1, h2, h3, h4, h5, h6, h7⟩ := h
  refine (hc S2 h2 (fun k hk => (h4 k hk).2)).mono ?_
  rintro e w' ⟨hR, hT, hf⟩
  have hs := hf.size
  have hs0 := h7.size
  refine ⟨hR, ⟨S1, ext S2 W.heap.size w'.heap.size, h1.kept hf (fun k _ hk hk1 => h5 k hk hk1), hT, fun q hq => ⟨(h3 q hq).1, Nat.lt_of_lt_of_le (h3 q hq).2 hs⟩, ?_, ?_, ?_, h7.trans (hf.toBelow h7.size (fun k hk hk1 => by have := (h4 k hk1).1; omega))⟩, fun q hq => hf.block q (h6 q hq).2.2 (h6 q hq).2.1⟩
  · rintro q (hq | hq)
    · exact ⟨(h4 q hq).1, Nat.lt_of_lt_of_le (h4 q hq).2 hs⟩
    · exact ⟨Nat.le_trans hs0 hq.1, hq.2⟩
  · rintro q hq1 (hq | hq)
    · exact h5 q hq1 hq
    · have := (h3 q hq1).2
      omega
  · intro q hq
    obtain ⟨x1, x2, x3⟩ := h6 q hq
    refine ⟨x1, ?_, Nat.lt_of_lt_of_le x3 hs⟩
    rintro (hq1 | hq1)
    · exact x2 hq1
    · omega
theorem Tab.wide {me : Int} {T : Nat} {S : Nat → Prop} {A : List Rt} {W : World} (h : Tab me T S A W) (a b : Nat) : Tab me T (ext S a b) A W := h.mono fun _ hk => .inl hk
theorem RTab.wide {me : Int} {T : Nat} {S : Nat → Prop} {A : List Rt} {W : World} (h : RTab me T S A W) (a b : Nat) : RTab me T (ext S a b) A W := h.mono fun _ hk => .inl hk

section
variable {me : Int} {T1 T2 : Nat} {w W : World} {X : Nat → Prop} {A B : List Rt}
theorem RdQ.pUpd (h : RdQ me T1 T2 w X A B W) (d s hp n e : Int) (hd : U32 d) (hs : U32 s) (hh : I64 hp) (hn : U32 n) (he : U64 e) :
    Calls Try.prog 34 #[.pointer (some ⟨T1, 0, none⟩), .int .u32 d, .int .u32 s, .int .i64 hp, .int .u32 n, .int .u64 e] W fun e' w' => e' = .returned (.int .i64 (updL me A d s hp n e).2) ∧ RdQ me T1 T2 w X (updL me A d s hp n e).1 B w' ∧ (∀ q, X q → w'.heap[q]? = W.heap[q]?) :=
  h.p (F := 34) (args := #[.pointer (some ⟨T1, 0, none⟩), .int .u32 d, .int .u32 s, .int .i64 hp, .int .u32 n, .int .u64 e]) (A' := (updL me A d s hp n e).1) (R := fun e' _ => e' = .returned (.int .i64 (updL me A d s hp n e).2)) fun S1 hT _ => (Update_any me T1 S1 A d s hp n e hd hs hh hn he W hT).mono fun _ _ h => h
theorem RdQ.rUpd (h : RdQ me T1 T2 w X A B W) (d s hp n e : Int) (hd : U32 d) (hs : U32 s) (hh : I64 hp) (hn : U32 n) (he : U64 e) :
    Calls Try.prog 35 #[.pointer (some ⟨T2, 0, none⟩), .int .u32 d, .int .u32 s, .int .i64 hp, .int .u32 n, .int .u64 e] W fun e' w' => e' = .returned (.int .i64 (updL me B d s hp n e).2) ∧ RdQ me T1 T2 w X A (updL me B d s hp n e).1 w' ∧ (∀ q, X q → w'.heap[q]? = W.heap[q]?) :=
  h.r (F := 35) (args := #[.pointer (some ⟨T2, 0, none⟩), .int .u32 d, .int .u32 s, .int .i64 hp, .int .u32 n, .int .u64 e]) (B' := (updL me B d s hp n e).1) (R := fun e' _ => e' = .returned (.int .i64 (updL me B d s hp n e).2)) fun S1 hT _ => (rUpdate_any me T2 S1 B d s hp n e hd hs hh hn he W hT).mono fun _ _ h => h
theorem RdQ.pUse (h : RdQ me T1 T2 w X A B W) (d e : Int) (hd : U32 d) (he : U64 e) :
    Calls Try.prog 39 #[.pointer (some ⟨T1, 0, none⟩), .int .u32 d, .int .u64 e] W fun e' w' => e' = .returned (.tuple #[]) ∧ RdQ me T1 T2 w X (useL A d e) B w' ∧ (∀ q, X q → w'.heap[q]? = W.heap[q]?) :=
  h.p (F := 39) (args := #[.pointer (some ⟨T1, 0, none⟩), .int .u32 d, .int .u64 e]) (A' := useL A d e) (R := fun e' _ => e' = .returned (.tuple #[])) fun S1 hT _ => (Use_any me T1 S1 A d e hd he W hT).mono fun _ _ h => ⟨h.1, h.2.1.wide _ _, h.2.2⟩
theorem RdQ.rUse (h : RdQ me T1 T2 w X A B W) (d e : Int) (he : U64 e) :
    Calls Try.prog 40 #[.pointer (some ⟨T2, 0, none⟩), .int .u32 d, .int .u64 e] W fun e' w' => e' = .returned (.tuple #[]) ∧ RdQ me T1 T2 w X A (useL B d e) w' ∧ (∀ q, X q → w'.heap[q]? = W.heap[q]?) :=
  h.r (F := 40) (args := #[.pointer (some ⟨T2, 0, none⟩), .int .u32 d, .int .u64 e]) (B' := useL B d e) (R := fun e' _ => e' = .returned (.tuple #[])) fun S1 hT _ => (rUse_any me T2 S1 B d e he W hT).mono fun _ _ h => ⟨h.1, h.2.1.wide _ _, h.2.2⟩
theorem RdQ.pBef (h : RdQ me T1 T2 w X A B W) (d n : Int) (hd : U32 d) (hn : U32 n) :
    Calls Try.prog 41 #[.pointer (some ⟨T1, 0, none⟩), .int .u32 d, .int .u32 n] W fun e' w' => e' = .returned (.tuple #[]) ∧ RdQ me T1 T2 w X (befL A d n) B w' ∧ (∀ q, X q → w'.heap[q]? = W.heap[q]?) :=
  h.p (F := 41) (args := #[.pointer (some ⟨T1, 0, none⟩), .int .u32 d, .int .u32 n]) (A' := befL A d n) (R := fun e' _ => e' = .returned (.tuple #[])) fun S1 hT _ => (Before_any me T1 S1 A d n hd hn W hT).mono fun _ _ h => h
theorem RdQ.rBef (h : RdQ me T1 T2 w X A B W) (d n : Int) (hn : U32 n) :
    Calls Try.prog 42 #[.pointer (some ⟨T2, 0, none⟩), .int .u32 d, .int .u32 n] W fun e' w' => e' = .returned (.tuple #[]) ∧ RdQ me T1 T2 w X A (befL B d n) w' ∧ (∀ q, X q → w'.heap[q]? = W.heap[q]?) :=
  h.r (F := 42) (args := #[.pointer (some ⟨T2, 0, none⟩), .int .u32 d, .int .u32 n]) (B' := befL B d n) (R := fun e' _ => e' = .returned (.tuple #[])) fun S1 hT _ => (rBefore_any me T2 S1 B d n hn W hT).mono fun _ _ h => h
theorem RdQ.pLose (h : RdQ me T1 T2 w X A B W) (n d s : Int) (hd : U32 d) (hs : U32 s) :
    Calls Try.prog 43 #[.pointer (some ⟨T1, 0, none⟩), .int .u32 n, .agg #[.int .u32 d, .int .u32 s]] W fun e' w' => e' = .returned (.bool (loseB A n d)) ∧ RdQ me T1 T2 w X (loseL A n d s) B w' ∧ (∀ q, X q → w'.heap[q]? = W.heap[q]?) :=
  h.p (F := 43) (args := #[.pointer (some ⟨T1, 0, none⟩), .int .u32 n, .agg #[.int .u32 d, .int .u32 s]]) (A' := loseL A n d s) (R := fun e' _ => e' = .returned (.bool (loseB A n d))) fun S1 hT _ => (Lose_any me T1 S1 A n d s hd hs W hT).mono fun _ _ h => ⟨h.1, h.2.1.wide _ _, h.2.2⟩
theorem RdQ.rLose (h : RdQ me T1 T2 w X A B W) (n d s : Int) (hs : U32 s) :
    Calls Try.prog 44 #[.pointer (some ⟨T2, 0, none⟩), .int .u32 n, .agg #[.int .u32 d, .int .u32 s]] W fun e' w' => e' = .returned (.bool (loseB B n d)) ∧ RdQ me T1 T2 w X A (loseL B n d s) w' ∧ (∀ q, X q → w'.heap[q]? = W.heap[q]?) :=
  h.r (F := 44) (args := #[.pointer (some ⟨T2, 0, none⟩), .int .u32 n, .agg #[.int .u32 d, .int .u32 s]]) (B' := loseL B n d s) (R := fun e' _ => e' = .returned (.bool (loseB B n d))) fun S1 hT _ => (rLose_any me T2 S1 B n d s hs W hT).mono fun _ _ h => ⟨h.1, h.2.1.wide _ _, h.2.2⟩
theorem RdQ.pExp (h : RdQ me T1 T2 w X A B W) (now : Int) :
    Calls Try.prog 47 #[.pointer (some ⟨T1, 0, none⟩), .int .u64 now] W fun e' w' => e' = .returned (.tuple #[]) ∧ RdQ me T1 T2 w X (expL A now) B w' ∧ (∀ q, X q → w'.heap[q]? = W.heap[q]?) :=
  h.p (F := 47) (args := #[.pointer (some ⟨T1, 0, none⟩), .int .u64 now]) (A' := expL A now) (R := fun e' _ => e' = .returned (.tuple #[])) fun S1 hT hb => by
    obtain ⟨M, f, g, hM, hS⟩ := hT
    refine (Expire_any now hM hS hb).mono ?_
    rintro e w' ⟨g', h1, h2, h3, h4⟩
    exact ⟨h1, ⟨M, f, g', h2, fun k hk => .inl (h3 k hk)⟩, h4⟩
theorem RdQ.rExp (h : RdQ me T1 T2 w X A B W) (now : Int) :
    Calls Try.prog 48 #[.pointer (some ⟨T2, 0, none⟩), .int .u64 now] W fun e' w' => e' = .returned (.tuple #[]) ∧ RdQ me T1 T2 w X A (expL B now) w' ∧ (∀ q, X q → w'.heap[q]? = W.heap[q]?) :=
  h.r (F := 48) (args := #[.pointer (some ⟨T2, 0, none⟩), .int .u64 now]) (B' := expL B now) (R := fun e' _ => e' = .returned (.tuple #[])) fun S1 hT _ => (rExpire_any me T2 S1 B now W hT).mono fun _ _ h => ⟨h.1, h.2.1.wide _ _, h.2.2⟩
/-- Broken: the list handed out lies apart. -/
theorem RdQ.pBrk (h : RdQ me T1 T2 w X A B W) (nxt : Int) :
    Calls Try.prog 45 #[.pointer (some ⟨T1, 0, none⟩), .int .u32 nxt] W fun e w' => (∃ v, e = .returned v ∧ w'.ownsRow W.heap.size 87 2 v (brkL nxt A).length (LsC (brkL nxt A)) ∧ RdQ me T1 T2 w (fun q => X q ∨ v.ownBlock = some q) (A.map (loseF nxt 0)) B w') ∧ (∀ q, X q → w'.heap[q]? = W.heap[q]?) := by
  obtain ⟨S1, S2, ⟨M, f, g, hM, hS⟩, h2, h3, h4, h5, h6, h7⟩ := h
  refine (Broken_any nxt hM hS (fun k hk => (h3 k hk).2)).mono ?_
  rintro e w' ⟨v, g', rfl, hr, hM', hS', hf⟩
  have hs := hf.size
  refine ⟨⟨v, rfl, hr, S1, S2, ⟨M, f, g', hM', hS'⟩, h2.kept hf (fun k _ hk hk1 => h5 k hk1 hk), fun q hq => ⟨(h3 q hq).1, Nat.lt_of_lt_of_le (h3 q hq).2 hs⟩, fun q hq => ⟨(h4 q hq).1, Nat.lt_of_lt_of_le (h4 q hq).2 hs⟩, h5, ?_, h7.trans (hf.toBelow h7.size (fun k hk hk1 => by have := (h3 k hk1).1; omega))⟩, fun q hq => hf.block q (h6 q hq).2.2 (h6 q hq).1⟩
  rintro q (hq | hq)
  · exact ⟨(h6 q hq).1, (h6 q hq).2.1, Nat.lt_of_lt_of_le (h6 q hq).2.2 hs⟩
  · have hq' := hr.lt q hq
    exact ⟨fun e => by have := (h3 q e).2; omega, fun e => by have := (h4 q e).2; omega, hq'.2⟩
theorem RdQ.rBrk (h : RdQ me T1 T2 w X A B W) (nxt : Int) :
    Calls Try.prog 46 #[.pointer (some ⟨T2, 0, none⟩), .int .u32 nxt] W fun e w' => (∃ v, e = .returned v ∧ w'.ownsRow W.heap.size 87 2 v (brkL nxt B).length (LsC (brkL nxt B)) ∧ RdQ me T1 T2 w X A (B.map (loseF nxt 0)) w') ∧ (∀ q, X q → w'.heap[q]? = W.heap[q]?) := by
  obtain ⟨S1, S2, h1, h2, h3, h4, h5, h6, h7⟩ := h
  refine (rBroken_any me T2 S2 B nxt W h2 (fun k hk => (h4 k hk).2)).mono ?_
  rintro e w' ⟨v, rfl, hr, hT, hf⟩
  have hs := hf.size
  exact ⟨⟨v, rfl, hr, S1, S2, h1.kept hf (fun k _ hk hk1 => h5 k hk hk1), hT, fun q hq => ⟨(h3 q hq).1, Nat.lt_of_lt_of_le (h3 q hq).2 hs⟩, fun q hq => ⟨(h4 q hq).1, Nat.lt_of_lt_of_le (h4 q hq).2 hs⟩, h5, fun q hq => ⟨(h6 q hq).1, (h6 q hq).2.1, Nat.lt_of_lt_of_le (h6 q hq).2.2 hs⟩, h7.trans (hf.toBelow h7.size (fun k hk hk1 => by have := (h4 k hk1).1; omega))⟩, fun q hq => hf.block q (h6 q hq).2.2 (h6 q hq).2.1⟩
theorem RdQ.pFind (h : RdQ me T1 T2 w X A B W) (d now : Int) (hd : U32 d) :
    Calls Try.prog 36 #[.pointer (some ⟨T1, 0, none⟩), .int .u32 d, .int .u64 now] W fun e w' => ∃ v', e = .returned (.tuple #[rtV (findL A d now).1 v', .bool (findL A d now).2]) ∧ w'.ownsRow 0 23 1 v' (findL A d now).1.bef.length ((findL A d now).1.bef.map encU) ∧ Below W.heap.size W w' := by
  obtain ⟨S1, S2, h1, _⟩ := h
  refine (Find_any me T1 S1 A d now hd W h1).mono ?_
  rintro e w' ⟨v, h1, h2, h3⟩
  exact ⟨v, h1, ownsRow_base_a h2 (Nat.zero_le _), h3⟩
theorem RdQ.rFind (h : RdQ me T1 T2 w X A B W) (d now : Int) :
    Calls Try.prog 37 #[.pointer (some ⟨T2, 0, none⟩), .int .u32 d, .int .u64 now] W fun e w' => ∃ u, e = .returned (.tuple #[rtV (findL B d now).1 u, .bool (findL B d now).2]) ∧ w'.ownsRow 0 23 1 u (findL B d now).1.bef.length ((findL B d now).1.bef.map encU) ∧ Below W.heap.size W w' := by
  obtain ⟨S1, S2, _, h2, _⟩ := h
  exact rFind_any me T2 S2 B d now W h2
theorem RdQ.find4 (h : RdQ me T1 T2 w X A B W) (d now : Int) : (findL A d now).1.bef.length ≤ 4 := by
  obtain ⟨S1, S2, ⟨M, f, g, hM, _⟩, _⟩ := h
  unfold findL
  cases hl : lineOf A d with
  | none => simp [zeroR]
  | some x =>
    dsimp only
    split
    · exact (hM.ok x (lineOf_some hl).1).befs
    · simp [zeroR]
/-- List, and the document's list. -/
theorem RdQ.list (h : RdQ me T1 T2 w X A A W) : Hid (Calls Try.prog 50 #[.pointer (some ⟨T1, 0, none⟩)] W fun e w' => ∃ v L, e = .returned v ∧ L.map (·.1) = A ∧ LsR W.heap.size v L w' ∧ Below W.heap.size W w') := by
  obtain ⟨S1, S2, ⟨M, f, g, hM, _⟩, _⟩ := h
  exact List_any hM
theorem RdQ.cells (h : RdQ me T1 T2 w X A B W) : ∃ v2 L2, L2.map (·.1) = B ∧ L2.length ≤ 8 ∧ (∀ p ∈ L2, p.1.bef.length ≤ 4) ∧ W.cell? ⟨T2, 1, none⟩ = some v2 ∧ LsR 0 v2 L2 W := by
  obtain ⟨S1, S2, _, ⟨v, L, h1, hM, _⟩, _⟩ := h
  exact ⟨v, L, h1, hM.len, fun p hp => (hM.ok p hp).befs, hM.cell.2, hM.row, hM.bef⟩
end
end Go.Proofs.Ytpdjhcfkhblioaa
