import Derived.Test.YtakaadcpaeiccabGreatU11
namespace Go.Proofs.YtakaadcpaeiccabGreat
open Go.RowKit Go.Sort

set_option maxRecDepth 100000 in
set_option maxHeartbeats 4000000 in
theorem sort_any (base g cap n : Nat) (d : Array Int) (w : World) (h : SR base g cap n d w) (hn : n ≤ 1000000) :
    Calls Tryz.prog 140 #[.slice (some ⟨g, 0, none⟩) n cap] w (PQ base g cap n 0 n d w) := by
  go_enter Tryz.func140, Tryz.ntmps140
  go_wp2_with fail
  refine (len_any n hn _).mono ?_
  rintro e w1 ⟨r, rfl, hr, _, rfl⟩
  have hp := pdq_any n base g cap n 0 n r d _ (by omega) h (Nat.zero_le _) (Nat.le_refl _) hn (by omega) (.inl rfl)
  have HP := (show Hid _ from hp)
  clear hp
  go_wp2_with fail
  refine Calls.mono HP.out ?_
  rintro e w2 ⟨rfl, d', h', hp, hs, hg⟩
  clear HP
  go_wp2
  go_returns
  exact ⟨rfl, d', h', hp, hs, hg⟩

set_option maxRecDepth 100000 in
set_option maxHeartbeats 4000000 in
theorem insertion_nil (w : World) :
    Calls Tryz.prog 183 #[.slice none 0 0, .int .i64 0, .int .i64 0] w fun e w' => e = .returned (.tuple #[]) ∧ w.grownBy w' none := by
  go_enter Tryz.func183, Tryz.ntmps183
  go_wp2_with fail
  go_loopw [6] (fun vi wr => vi = .int .i64 1 ∧ w.grownBy wr none) (fun _ _ => 0)
  case atStart => exact ⟨rfl, grn_rfl _ _⟩
  case round =>
    obtain ⟨rfl, hg⟩ := hrel
    go_wp2
    go_returns
    exact ⟨rfl, hg⟩
set_option maxRecDepth 100000 in
set_option maxHeartbeats 4000000 in
theorem pdq_nil (r : Nat) (w : World) :
    Calls Tryz.prog 172 #[.slice none 0 0, .int .i64 0, .int .i64 0, .int .i64 r] w fun e w' => e = .returned (.tuple #[]) ∧ w.grownBy w' none := by
  go_enter Tryz.func172, Tryz.ntmps172
  go_wp2_with fail
  go_loopw [1, 2] (fun va vb wr => va = .int .i64 0 ∧ vb = .int .i64 0 ∧ w.grownBy wr none) (fun _ _ _ => 0)
  case atStart => exact ⟨rfl, rfl, grn_rfl _ _⟩
  case round =>
    obtain ⟨rfl, rfl, hg⟩ := hrel
    go_wp2_with fail
    refine (insertion_nil _).mono ?_
    rintro e w1 ⟨rfl, h1⟩
    go_wp2
    go_returns
    exact ⟨rfl, hg.trans h1⟩
set_option maxRecDepth 100000 in
set_option maxHeartbeats 4000000 in
theorem sort_nil (w : World) :
    Calls Tryz.prog 140 #[.slice none 0 0] w fun e w' => e = .returned (.tuple #[]) ∧ w.grownBy w' none := by
  go_enter Tryz.func140, Tryz.ntmps140
  go_wp2_with fail
  refine (len_any 0 (by omega) _).mono ?_
  rintro e w1 ⟨r, rfl, hr, _, rfl⟩
  go_wp2_with fail
  refine (pdq_nil r _).mono ?_
  rintro e w2 ⟨rfl, hg⟩
  go_wp2
  go_returns
  exact ⟨rfl, hg⟩
end Go.Proofs.YtakaadcpaeiccabGreat
