/-
  No cell of these rows narrows 'for every input' (looked for: loops, veiled, ifaces, maps, wideKeys, modest, calm, conditions, laid).
  DERIVED. THE GIVEN ROWS OF THIS SEAT. 8 by the template 'for every input the law returns true; each argument reads behind the call as it read before'; 0 by the template 'total and deterministic' (their statements: YtpdjhcfkhblioaaTotals.lean).
  GIVEN WITH THE SEED: the statements are not yours to turn. If you find one false, say at which input.
  Laid BY PROGRAM, IN A SANDBOX (cutbox-rows.mjs): the forced cells as the released guide's own fill.sh prints them over the translation f5a67744cf119c0e… (all of the seat's roots in one cut). By AI agents, Wed Nov 11 2026. No macro, syntax, notation, axiom, sorry.
-/
import Derived.Test.YtpdjhcfkhblioaaChecked
import GoSem.Claim
import GoSem.ClaimJoined
import GoSem.ClaimMapViews
import Derived.JoinedTies
import Derived.KernelRfl
namespace Go.Proofs.Ytpdjhcfkhblioaa
/- THE CELL 'sum', in the pinned program and in every row, IS THE sha256 OF THE DUMP (.gsa) THAT YtpdjhcfkhblioaaProg.lean LOADS. Nothing in Lean hashes anything: it is a label: what it is worth is what the hold of that sum in a sandbox is worth. -/
noncomputable def Try.pinned : Pinned := { name := "ytpdjhcfkhblioaa", sum := "f5a67744cf119c0e6da667d405c48d2f1a53518fac76b1c41ec55ef410f2c626", checked := Try.checked }
namespace Rows
def none {H : Type} : Left H := { results := [], args := [] }

/-- 'meshlaw.Encodes': WHATEVER THE INPUT: true; the input reads as it did. -/
def encodesSpec : ChangeSpec := { name := "encodes", fn := fun _ => fun
  | [d] => { results := [.lit (.bool true)], args := [d] }
  | _ => none }
def encodesRow : OpenClaim := { program := "ytpdjhcfkhblioaa", sum := "f5a67744cf119c0e6da667d405c48d2f1a53518fac76b1c41ec55ef410f2c626", func := "mesh/meshlaw.Encodes", spec := "encodes", apart := false }
def EncodesSaid : Prop := encodesRow.holds Try.pinned (OpenSpec.ofChange encodesSpec)

/-- ITS FALSE NEIGHBOUR: 'it returns false'. Refute it at one input. -/
def encodesWrong : ChangeSpec := { name := "encodes", fn := fun _ => fun
  | [d] => { results := [.lit (.bool false)], args := [d] }
  | _ => none }
def EncodesWrongFalsely : Prop := encodesRow.holds Try.pinned (OpenSpec.ofChange encodesWrong)

/-- 'meshlaw.Decodes': WHATEVER THE INPUT: true; the input reads as it did. -/
def decodesSpec : ChangeSpec := { name := "decodes", fn := fun _ => fun
  | [d] => { results := [.lit (.bool true)], args := [d] }
  | _ => none }
def decodesRow : OpenClaim := { program := "ytpdjhcfkhblioaa", sum := "f5a67744cf119c0e6da667d405c48d2f1a53518fac76b1c41ec55ef410f2c626", func := "mesh/meshlaw.Decodes", spec := "decodes", unfollowed := true, recurses := true, apart := false }
def DecodesSaid : Prop := decodesRow.holds Try.pinned (OpenSpec.ofChange decodesSpec)

/-- ITS FALSE NEIGHBOUR: 'it returns false'. Refute it at one input. -/
def decodesWrong : ChangeSpec := { name := "decodes", fn := fun _ => fun
  | [d] => { results := [.lit (.bool false)], args := [d] }
  | _ => none }
def DecodesWrongFalsely : Prop := decodesRow.holds Try.pinned (OpenSpec.ofChange decodesWrong)

/-- 'meshlaw.Journals': WHATEVER THE INPUT: true; the input reads as it did. -/
def journalsSpec : ChangeSpec := { name := "journals", fn := fun _ => fun
  | [d1, d2, d3] => { results := [.lit (.bool true)], args := [d1, d2, d3] }
  | _ => none }
def journalsRow : OpenClaim := { program := "ytpdjhcfkhblioaa", sum := "f5a67744cf119c0e6da667d405c48d2f1a53518fac76b1c41ec55ef410f2c626", func := "mesh/meshlaw.Journals", spec := "journals", unfollowed := true, recurses := true, apart := false }
def JournalsSaid : Prop := journalsRow.holds Try.pinned (OpenSpec.ofChange journalsSpec)

/-- ITS FALSE NEIGHBOUR: 'it returns false'. Refute it at one input. -/
def journalsWrong : ChangeSpec := { name := "journals", fn := fun _ => fun
  | [d1, d2, d3] => { results := [.lit (.bool false)], args := [d1, d2, d3] }
  | _ => none }
def JournalsWrongFalsely : Prop := journalsRow.holds Try.pinned (OpenSpec.ofChange journalsWrong)

/-- 'meshlaw.Timed': WHATEVER THE INPUT: true; the input reads as it did. -/
def timedSpec : ChangeSpec := { name := "timed", fn := fun _ => fun
  | [d] => { results := [.lit (.bool true)], args := [d] }
  | _ => none }
def timedRow : OpenClaim := { program := "ytpdjhcfkhblioaa", sum := "f5a67744cf119c0e6da667d405c48d2f1a53518fac76b1c41ec55ef410f2c626", func := "mesh/meshlaw.Timed", spec := "timed", apart := false }
def TimedSaid : Prop := timedRow.holds Try.pinned (OpenSpec.ofChange timedSpec)

/-- ITS FALSE NEIGHBOUR: 'it returns false'. Refute it at one input. -/
def timedWrong : ChangeSpec := { name := "timed", fn := fun _ => fun
  | [d] => { results := [.lit (.bool false)], args := [d] }
  | _ => none }
def TimedWrongFalsely : Prop := timedRow.holds Try.pinned (OpenSpec.ofChange timedWrong)

/-- 'meshlaw.Routed': WHATEVER THE INPUT: true; the input reads as it did. -/
def routedSpec : ChangeSpec := { name := "routed", fn := fun _ => fun
  | [d1, d2, d3] => { results := [.lit (.bool true)], args := [d1, d2, d3] }
  | _ => none }
def routedRow : OpenClaim := { program := "ytpdjhcfkhblioaa", sum := "f5a67744cf119c0e6da667d405c48d2f1a53518fac76b1c41ec55ef410f2c626", func := "mesh/meshlaw.Routed", spec := "routed", inPlace := ["slices.overlaps[uint32]"], unfollowed := true, recurses := true, apart := false }
def RoutedSaid : Prop := routedRow.holds Try.pinned (OpenSpec.ofChange routedSpec)

/-- ITS FALSE NEIGHBOUR: 'it returns false'. Refute it at one input. -/
def routedWrong : ChangeSpec := { name := "routed", fn := fun _ => fun
  | [d1, d2, d3] => { results := [.lit (.bool false)], args := [d1, d2, d3] }
  | _ => none }
def RoutedWrongFalsely : Prop := routedRow.holds Try.pinned (OpenSpec.ofChange routedWrong)

/-- 'meshkeep.Turns': WHATEVER THE INPUT: true; the input reads as it did. -/
def turnsSpec : ChangeSpec := { name := "turns", fn := fun _ => fun
  | [d1, d2] => { results := [.lit (.bool true)], args := [d1, d2] }
  | _ => none }
def turnsRow : OpenClaim := { program := "ytpdjhcfkhblioaa", sum := "f5a67744cf119c0e6da667d405c48d2f1a53518fac76b1c41ec55ef410f2c626", func := "mesh/meshkeep.Turns", spec := "turns", unfollowed := true, recurses := true, apart := false }
def TurnsSaid : Prop := turnsRow.holds Try.pinned (OpenSpec.ofChange turnsSpec)

/-- ITS FALSE NEIGHBOUR: 'it returns false'. Refute it at one input. -/
def turnsWrong : ChangeSpec := { name := "turns", fn := fun _ => fun
  | [d1, d2] => { results := [.lit (.bool false)], args := [d1, d2] }
  | _ => none }
def TurnsWrongFalsely : Prop := turnsRow.holds Try.pinned (OpenSpec.ofChange turnsWrong)

/-- 'meshkeep.Torn': WHATEVER THE INPUT: true; the input reads as it did. -/
def tornSpec : ChangeSpec := { name := "torn", fn := fun _ => fun
  | [d1, d2, d3] => { results := [.lit (.bool true)], args := [d1, d2, d3] }
  | _ => none }
def tornRow : OpenClaim := { program := "ytpdjhcfkhblioaa", sum := "f5a67744cf119c0e6da667d405c48d2f1a53518fac76b1c41ec55ef410f2c626", func := "mesh/meshkeep.Torn", spec := "torn", apart := false }
def TornSaid : Prop := tornRow.holds Try.pinned (OpenSpec.ofChange tornSpec)

/-- ITS FALSE NEIGHBOUR: 'it returns false'. Refute it at one input. -/
def tornWrong : ChangeSpec := { name := "torn", fn := fun _ => fun
  | [d1, d2, d3] => { results := [.lit (.bool false)], args := [d1, d2, d3] }
  | _ => none }
def TornWrongFalsely : Prop := tornRow.holds Try.pinned (OpenSpec.ofChange tornWrong)

/-- 'meshkeep.Timely': WHATEVER THE INPUT: true; the input reads as it did. -/
def timelySpec : ChangeSpec := { name := "timely", fn := fun _ => fun
  | [d1, d2] => { results := [.lit (.bool true)], args := [d1, d2] }
  | _ => none }
def timelyRow : OpenClaim := { program := "ytpdjhcfkhblioaa", sum := "f5a67744cf119c0e6da667d405c48d2f1a53518fac76b1c41ec55ef410f2c626", func := "mesh/meshkeep.Timely", spec := "timely", apart := false }
def TimelySaid : Prop := timelyRow.holds Try.pinned (OpenSpec.ofChange timelySpec)

/-- ITS FALSE NEIGHBOUR: 'it returns false'. Refute it at one input. -/
def timelyWrong : ChangeSpec := { name := "timely", fn := fun _ => fun
  | [d1, d2] => { results := [.lit (.bool false)], args := [d1, d2] }
  | _ => none }
def TimelyWrongFalsely : Prop := timelyRow.holds Try.pinned (OpenSpec.ofChange timelyWrong)

/- THE SECOND FORM. 'bulk': how many values and letters a reading holds, each counted each time it is reached (what is shared counts as often as it is met; a slice's spare places count too). A statement '..UptoSaid' is the law's where the arguments, and the package variables that the reading takes, are together of bulk at most 1048576: NARROWER than '..Said'. Prove '..Said' where nothing that the law and all that it calls make is longer than what came in: it says more and counts as full. Else prove '..UptoSaid'. A law counts once. -/
mutual
def uptoBulk {H : Type} : DataW H → Nat
  | .lit (.string bytes) => bytes.length + 1
  | .lit _ => 1
  | .nil => 1
  | .ptr d => uptoBulk d + 1
  | .slice elems spare => uptoBulkAll elems + uptoBulkAll spare + 1
  | .agg parts => uptoBulkAll parts + 1
  | .iface _ d => uptoBulk d + 1
  | .map entries => uptoBulkEntries entries + 1
  | .held _ => 1
def uptoBulkAll {H : Type} : List (DataW H) → Nat
  | [] => 0
  | d :: r => uptoBulk d + uptoBulkAll r
def uptoBulkEntries {H : Type} : List (Lit × DataW H) → Nat
  | [] => 0
  | x :: r => uptoBulkEntry x + uptoBulkEntries r
def uptoBulkEntry {H : Type} : Lit × DataW H → Nat
  | (.string bytes, d) => bytes.length + uptoBulk d + 1
  | (_, d) => uptoBulk d + 1
 end
def uptoSmall : (H : Type) → List (DataW H) → Bool := fun _ ds => decide (uptoBulkAll ds ≤ 1048576)
def OpenSpec.upto (s : _root_.Go.ChangeSpec) : _root_.Go.OpenSpec := { _root_.Go.OpenSpec.ofChange s with cond := some uptoSmall }

/-- 'meshlaw.Encodes', WHERE WHAT IT READS IS OF BULK AT MOST 1048576: true; the input reads as it did. -/
def encodesUptoRow : OpenClaim := { program := "ytpdjhcfkhblioaa", sum := "f5a67744cf119c0e6da667d405c48d2f1a53518fac76b1c41ec55ef410f2c626", func := "mesh/meshlaw.Encodes", spec := "encodes", apart := false, narrowed := true }
def EncodesUptoSaid : Prop := encodesUptoRow.holds Try.pinned (OpenSpec.upto encodesSpec)

/-- 'meshlaw.Decodes', WHERE WHAT IT READS IS OF BULK AT MOST 1048576: true; the input reads as it did. -/
def decodesUptoRow : OpenClaim := { program := "ytpdjhcfkhblioaa", sum := "f5a67744cf119c0e6da667d405c48d2f1a53518fac76b1c41ec55ef410f2c626", func := "mesh/meshlaw.Decodes", spec := "decodes", unfollowed := true, recurses := true, apart := false, narrowed := true }
def DecodesUptoSaid : Prop := decodesUptoRow.holds Try.pinned (OpenSpec.upto decodesSpec)

/-- 'meshlaw.Journals', WHERE WHAT IT READS IS OF BULK AT MOST 1048576: true; the input reads as it did. -/
def journalsUptoRow : OpenClaim := { program := "ytpdjhcfkhblioaa", sum := "f5a67744cf119c0e6da667d405c48d2f1a53518fac76b1c41ec55ef410f2c626", func := "mesh/meshlaw.Journals", spec := "journals", unfollowed := true, recurses := true, apart := false, narrowed := true }
def JournalsUptoSaid : Prop := journalsUptoRow.holds Try.pinned (OpenSpec.upto journalsSpec)

/-- 'meshlaw.Timed', WHERE WHAT IT READS IS OF BULK AT MOST 1048576: true; the input reads as it did. -/
def timedUptoRow : OpenClaim := { program := "ytpdjhcfkhblioaa", sum := "f5a67744cf119c0e6da667d405c48d2f1a53518fac76b1c41ec55ef410f2c626", func := "mesh/meshlaw.Timed", spec := "timed", apart := false, narrowed := true }
def TimedUptoSaid : Prop := timedUptoRow.holds Try.pinned (OpenSpec.upto timedSpec)

/-- 'meshlaw.Routed', WHERE WHAT IT READS IS OF BULK AT MOST 1048576: true; the input reads as it did. -/
def routedUptoRow : OpenClaim := { program := "ytpdjhcfkhblioaa", sum := "f5a67744cf119c0e6da667d405c48d2f1a53518fac76b1c41ec55ef410f2c626", func := "mesh/meshlaw.Routed", spec := "routed", inPlace := ["slices.overlaps[uint32]"], unfollowed := true, recurses := true, apart := false, narrowed := true }
def RoutedUptoSaid : Prop := routedUptoRow.holds Try.pinned (OpenSpec.upto routedSpec)

/-- 'meshkeep.Turns', WHERE WHAT IT READS IS OF BULK AT MOST 1048576: true; the input reads as it did. -/
def turnsUptoRow : OpenClaim := { program := "ytpdjhcfkhblioaa", sum := "f5a67744cf119c0e6da667d405c48d2f1a53518fac76b1c41ec55ef410f2c626", func := "mesh/meshkeep.Turns", spec := "turns", unfollowed := true, recurses := true, apart := false, narrowed := true }
def TurnsUptoSaid : Prop := turnsUptoRow.holds Try.pinned (OpenSpec.upto turnsSpec)

/-- 'meshkeep.Torn', WHERE WHAT IT READS IS OF BULK AT MOST 1048576: true; the input reads as it did. -/
def tornUptoRow : OpenClaim := { program := "ytpdjhcfkhblioaa", sum := "f5a67744cf119c0e6da667d405c48d2f1a53518fac76b1c41ec55ef410f2c626", func := "mesh/meshkeep.Torn", spec := "torn", apart := false, narrowed := true }
def TornUptoSaid : Prop := tornUptoRow.holds Try.pinned (OpenSpec.upto tornSpec)

/-- 'meshkeep.Timely', WHERE WHAT IT READS IS OF BULK AT MOST 1048576: true; the input reads as it did. -/
def timelyUptoRow : OpenClaim := { program := "ytpdjhcfkhblioaa", sum := "f5a67744cf119c0e6da667d405c48d2f1a53518fac76b1c41ec55ef410f2c626", func := "mesh/meshkeep.Timely", spec := "timely", apart := false, narrowed := true }
def TimelyUptoSaid : Prop := timelyUptoRow.holds Try.pinned (OpenSpec.upto timelySpec)

end Rows
end Go.Proofs.Ytpdjhcfkhblioaa
