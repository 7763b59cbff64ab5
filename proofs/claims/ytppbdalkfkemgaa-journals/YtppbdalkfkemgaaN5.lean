import Derived.Test.YtppbdalkfkemgaaN4
import Derived.Test.YtppbdalkfkemgaaU12
namespace Go.Proofs.Ytppbdalkfkemgaa
open Go.RowKit Go.Maps Go.Sort

theorem perm_all {d d' : Array Int} {n : Nat} (hd : d.size = n) (h : PermIn 0 n d d') : d'.toList.Perm d.toList := by
  obtain ⟨h1, _, h3⟩ := h
  have e1 : d.extract 0 n = d := by rw [← hd]; simp
  have e2 : d'.extract 0 n = d' := by rw [← hd, ← h1]; simp
  rw [e1, e2] at h3
  exact h3
theorem sorted_all {d : Array Int} {n : Nat} (hd : d.size = n) (h : SortedIn ltInt 0 n d) : d.toList.Pairwise (· ≤ ·) := by
  rw [List.pairwise_iff_getElem]
  intro i j hi hj hij
  have hi' : i < d.size := by simpa using hi
  have hj' : j < d.size := by simpa using hj
  have := h i j (Nat.zero_le _) hij (by omega)
  simp only [ltInt, decide_eq_false_iff_not] at this
  rw [getElem!_pos d j hj', getElem!_pos d i hi'] at this
  simp only [Array.getElem_toList]
  omega

set_option maxRecDepth 100000 in
set_option maxHeartbeats 2000000 in
/-- slices.Sorted, against whatever iterator: a new row that holds what came, ascending. -/
theorem sorted_any (g : Nat) (lb : Array Value) (eg : ∀ args w, (callFunc g args).run Try.prog w = .ok (.enter g args) w)
    (S : List Int → Prop) (N : Nat) (hN : N ≤ 1000000) (w : World) (hseq : SeqGives Fence.wide 1 Try.prog g lb encU S N w) :
    Calls Try.prog 68 #[.func (.func g) #[] lb] w fun e w' => ∃ (v : Value) (ts ss : List Int), e = .returned v ∧ S ss ∧ ts.Perm ss ∧ ts.Pairwise (· ≤ ·) ∧ ts.length ≤ N ∧
      w'.ownsRow w.heap.size 23 1 v ts.length (ts.map encU) ∧ Below w.heap.size w w' := by
  have hc := callsIn_wide.1 (collect_in Fence.wide 3 trivial trivial rfl (Nat.le_refl _) g lb trivial eg _ N (by unfold maxLen; omega) (by omega) w hseq.bounded)
  have HC := (show Hid _ from hc)
  clear hc hseq
  go_enter Try.func68, Try.ntmps68
  go_wp2_with fail
  refine Calls.mono HC.out ?_
  rintro e W ⟨v, ss, rfl, ⟨hS, hlen⟩, hrow, hnil, hb⟩
  clear HC
  rcases hrow.2 with ⟨rfl, hz⟩ | ⟨gb, cap, cur, rfl, hbase, hgb, r1, r2, r3, r4⟩
  · have hss : ss = [] := List.eq_nil_of_length_eq_zero hz
    subst hss
    go_wp2_with fail
    refine (sort_nil _).mono ?_
    rintro e w2 ⟨rfl, hg⟩
    go_wp2
    go_ret
    refine ⟨.slice none 0 0, [], [], rfl, hS, List.Perm.refl _, List.Pairwise.nil, Nat.zero_le _, ⟨rfl, .inl ⟨rfl, rfl⟩⟩, hb.grown hg hb.size (fun k e => by cases e)⟩
  · have hSR : SR w.heap.size gb cap ss.length ss.toArray W := ⟨by simp, by
      have : UC ss.toArray = ss.map encU := by simp [UC]
      rw [this]; exact hrow⟩
    have hs := sort_any w.heap.size gb cap ss.length ss.toArray W hSR (by omega)
    have HS := (show Hid _ from hs)
    have HB := (show Hid _ from hb)
    clear hs hSR hgb r3 r4 hrow hb
    go_wp2_with fail
    refine Calls.mono HS.out ?_
    rintro e w2 ⟨rfl, d', h', hp, hso, hg⟩
    clear HS
    go_wp2
    go_ret
    have hsz : d'.size = ss.length := h'.size
    have hl : d'.toList.length = ss.length := by simpa using hsz
    have hpa := perm_all (by simp) hp
    refine ⟨_, d'.toList, ss, rfl, hS, by simpa using hpa, sorted_all hsz hso, by omega, ?_, HB.out.grown hg HB.out.size (fun k e => by cases e; exact hbase)⟩
    rw [hl]
    exact h'.row
end Go.Proofs.Ytppbdalkfkemgaa
