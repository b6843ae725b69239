/-
  No cell of these rows narrows 'for every input' (looked for: loops, veiled, ifaces, maps, wideKeys, modest, calm, conditions, laid).
  DERIVED. THE GIVEN ROWS OF THIS SEAT. 4 by the template 'for every input the law returns true; each argument reads behind the call as it read before'; 0 by the template 'total and deterministic' (their statements: YtefkbfmckoidaaaTotals.lean).
  GIVEN WITH THE SEED: the statements are not yours to turn. If you find one false, say at which input.
  Laid BY PROGRAM, IN A SANDBOX (cutbox-rows.mjs): the forced cells as the released guide's own fill.sh prints them over the translation 1a17f9d95e8762a4… (all of the seat's roots in one cut). By AI agents, Wed Nov 11 2026. No macro, syntax, notation, axiom, sorry.
-/
import Derived.Test.YtefkbfmckoidaaaChecked
import GoSem.Claim
import GoSem.ClaimJoined
import GoSem.ClaimMapViews
import Derived.JoinedTies
import Derived.KernelRfl
namespace Go.Proofs.Ytefkbfmckoidaaa
/- THE CELL 'sum', in the pinned program and in every row, IS THE sha256 OF THE DUMP (.gsa) THAT YtefkbfmckoidaaaProg.lean LOADS. Nothing in Lean hashes anything: it is a label: what it is worth is what the hold of that sum in a sandbox is worth. -/
noncomputable def Try.pinned : Pinned := { name := "ytefkbfmckoidaaa", sum := "1a17f9d95e8762a40f1d6799350c3492143c98e2ef47df42e65db1c7d3efd0c9", checked := Try.checked }
namespace Rows
def none {H : Type} : Left H := { results := [], args := [] }

/-- 'aviarylaw07.PickTells': WHATEVER THE INPUT: true; the input reads as it did. -/
def pickTellsSpec : ChangeSpec := { name := "pickTells", fn := fun _ => fun
  | [d1, d2, d3] => { results := [.lit (.bool true)], args := [d1, d2, d3] }
  | _ => none }
def pickTellsRow : OpenClaim := { program := "ytefkbfmckoidaaa", sum := "1a17f9d95e8762a40f1d6799350c3492143c98e2ef47df42e65db1c7d3efd0c9", func := "aviary/aviarylaw07.PickTells", spec := "pickTells", unfollowed := true, recurses := true, apart := false }
def PickTellsSaid : Prop := pickTellsRow.holds Try.pinned (OpenSpec.ofChange pickTellsSpec)

/-- ITS FALSE NEIGHBOUR: 'it returns false'. Refute it at one input. -/
def pickTellsWrong : ChangeSpec := { name := "pickTells", fn := fun _ => fun
  | [d1, d2, d3] => { results := [.lit (.bool false)], args := [d1, d2, d3] }
  | _ => none }
def PickTellsWrongFalsely : Prop := pickTellsRow.holds Try.pinned (OpenSpec.ofChange pickTellsWrong)

/-- 'aviarylaw07.PickAll': WHATEVER THE INPUT: true; the input reads as it did. -/
def pickAllSpec : ChangeSpec := { name := "pickAll", fn := fun _ => fun
  | [d] => { results := [.lit (.bool true)], args := [d] }
  | _ => none }
def pickAllRow : OpenClaim := { program := "ytefkbfmckoidaaa", sum := "1a17f9d95e8762a40f1d6799350c3492143c98e2ef47df42e65db1c7d3efd0c9", func := "aviary/aviarylaw07.PickAll", spec := "pickAll", unfollowed := true, recurses := true, apart := false }
def PickAllSaid : Prop := pickAllRow.holds Try.pinned (OpenSpec.ofChange pickAllSpec)

/-- ITS FALSE NEIGHBOUR: 'it returns false'. Refute it at one input. -/
def pickAllWrong : ChangeSpec := { name := "pickAll", fn := fun _ => fun
  | [d] => { results := [.lit (.bool false)], args := [d] }
  | _ => none }
def PickAllWrongFalsely : Prop := pickAllRow.holds Try.pinned (OpenSpec.ofChange pickAllWrong)

/-- 'aviarylaw07.PickFewer': WHATEVER THE INPUT: true; the input reads as it did. -/
def pickFewerSpec : ChangeSpec := { name := "pickFewer", fn := fun _ => fun
  | [d1, d2, d3] => { results := [.lit (.bool true)], args := [d1, d2, d3] }
  | _ => none }
def pickFewerRow : OpenClaim := { program := "ytefkbfmckoidaaa", sum := "1a17f9d95e8762a40f1d6799350c3492143c98e2ef47df42e65db1c7d3efd0c9", func := "aviary/aviarylaw07.PickFewer", spec := "pickFewer", unfollowed := true, recurses := true, apart := false }
def PickFewerSaid : Prop := pickFewerRow.holds Try.pinned (OpenSpec.ofChange pickFewerSpec)

/-- ITS FALSE NEIGHBOUR: 'it returns false'. Refute it at one input. -/
def pickFewerWrong : ChangeSpec := { name := "pickFewer", fn := fun _ => fun
  | [d1, d2, d3] => { results := [.lit (.bool false)], args := [d1, d2, d3] }
  | _ => none }
def PickFewerWrongFalsely : Prop := pickFewerRow.holds Try.pinned (OpenSpec.ofChange pickFewerWrong)

/-- 'aviarylaw07.PickMoved': WHATEVER THE INPUT: true; the input reads as it did. -/
def pickMovedSpec : ChangeSpec := { name := "pickMoved", fn := fun _ => fun
  | [d1, d2] => { results := [.lit (.bool true)], args := [d1, d2] }
  | _ => none }
def pickMovedRow : OpenClaim := { program := "ytefkbfmckoidaaa", sum := "1a17f9d95e8762a40f1d6799350c3492143c98e2ef47df42e65db1c7d3efd0c9", func := "aviary/aviarylaw07.PickMoved", spec := "pickMoved", unfollowed := true, recurses := true, apart := false }
def PickMovedSaid : Prop := pickMovedRow.holds Try.pinned (OpenSpec.ofChange pickMovedSpec)

/-- ITS FALSE NEIGHBOUR: 'it returns false'. Refute it at one input. -/
def pickMovedWrong : ChangeSpec := { name := "pickMoved", fn := fun _ => fun
  | [d1, d2] => { results := [.lit (.bool false)], args := [d1, d2] }
  | _ => none }
def PickMovedWrongFalsely : Prop := pickMovedRow.holds Try.pinned (OpenSpec.ofChange pickMovedWrong)

/- THE SECOND FORM. 'bulk': how many values and letters a reading holds, each counted each time it is reached (what is shared counts as often as it is met; a slice's spare places count too). A statement '..UptoSaid' is the law's where the arguments, and the package variables that the reading takes, are together of bulk at most 1048576: NARROWER than '..Said'. Prove '..Said' where nothing that the law and all that it calls make is longer than what came in: it says more and counts as full. Else prove '..UptoSaid'. A law counts once. -/
mutual
def uptoBulk {H : Type} : DataW H → Nat
  | .lit (.string bytes) => bytes.length + 1
  | .lit _ => 1
  | .nil => 1
  | .ptr d => uptoBulk d + 1
  | .slice elems spare => uptoBulkAll elems + uptoBulkAll spare + 1
  | .agg parts => uptoBulkAll parts + 1
  | .iface _ d => uptoBulk d + 1
  | .map entries => uptoBulkEntries entries + 1
  | .held _ => 1
def uptoBulkAll {H : Type} : List (DataW H) → Nat
  | [] => 0
  | d :: r => uptoBulk d + uptoBulkAll r
def uptoBulkEntries {H : Type} : List (Lit × DataW H) → Nat
  | [] => 0
  | x :: r => uptoBulkEntry x + uptoBulkEntries r
def uptoBulkEntry {H : Type} : Lit × DataW H → Nat
  | (.string bytes, d) => bytes.length + uptoBulk d + 1
  | (_, d) => uptoBulk d + 1
 end
def uptoSmall : (H : Type) → List (DataW H) → Bool := fun _ ds => decide (uptoBulkAll ds ≤ 1048576)
def OpenSpec.upto (s : _root_.Go.ChangeSpec) : _root_.Go.OpenSpec := { _root_.Go.OpenSpec.ofChange s with cond := some uptoSmall }

/-- 'aviarylaw07.PickTells', WHERE WHAT IT READS IS OF BULK AT MOST 1048576: true; the input reads as it did. -/
def pickTellsUptoRow : OpenClaim := { program := "ytefkbfmckoidaaa", sum := "1a17f9d95e8762a40f1d6799350c3492143c98e2ef47df42e65db1c7d3efd0c9", func := "aviary/aviarylaw07.PickTells", spec := "pickTells", unfollowed := true, recurses := true, apart := false, narrowed := true }
def PickTellsUptoSaid : Prop := pickTellsUptoRow.holds Try.pinned (OpenSpec.upto pickTellsSpec)

/-- 'aviarylaw07.PickAll', WHERE WHAT IT READS IS OF BULK AT MOST 1048576: true; the input reads as it did. -/
def pickAllUptoRow : OpenClaim := { program := "ytefkbfmckoidaaa", sum := "1a17f9d95e8762a40f1d6799350c3492143c98e2ef47df42e65db1c7d3efd0c9", func := "aviary/aviarylaw07.PickAll", spec := "pickAll", unfollowed := true, recurses := true, apart := false, narrowed := true }
def PickAllUptoSaid : Prop := pickAllUptoRow.holds Try.pinned (OpenSpec.upto pickAllSpec)

/-- 'aviarylaw07.PickFewer', WHERE WHAT IT READS IS OF BULK AT MOST 1048576: true; the input reads as it did. -/
def pickFewerUptoRow : OpenClaim := { program := "ytefkbfmckoidaaa", sum := "1a17f9d95e8762a40f1d6799350c3492143c98e2ef47df42e65db1c7d3efd0c9", func := "aviary/aviarylaw07.PickFewer", spec := "pickFewer", unfollowed := true, recurses := true, apart := false, narrowed := true }
def PickFewerUptoSaid : Prop := pickFewerUptoRow.holds Try.pinned (OpenSpec.upto pickFewerSpec)

/-- 'aviarylaw07.PickMoved', WHERE WHAT IT READS IS OF BULK AT MOST 1048576: true; the input reads as it did. -/
def pickMovedUptoRow : OpenClaim := { program := "ytefkbfmckoidaaa", sum := "1a17f9d95e8762a40f1d6799350c3492143c98e2ef47df42e65db1c7d3efd0c9", func := "aviary/aviarylaw07.PickMoved", spec := "pickMoved", unfollowed := true, recurses := true, apart := false, narrowed := true }
def PickMovedUptoSaid : Prop := pickMovedUptoRow.holds Try.pinned (OpenSpec.upto pickMovedSpec)

end Rows
end Go.Proofs.Ytefkbfmckoidaaa
