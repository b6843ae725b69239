/-
  No cell of these rows narrows 'for every input' (looked for: loops, veiled, ifaces, maps, wideKeys, modest, calm, conditions, laid).
  DERIVED. THE GIVEN ROWS OF THIS SEAT. 5 by the template 'for every input the law returns true; each argument reads behind the call as it read before'; 0 by the template 'total and deterministic' (their statements: YteeljnibglnflaaTotals.lean).
  GIVEN WITH THE SEED: the statements are not yours to turn. If you find one false, say at which input.
  Laid BY PROGRAM, IN A SANDBOX (cutbox-rows.mjs): the forced cells as the released guide's own fill.sh prints them over the translation 3f4eb84f6a978f13… (all of the seat's roots in one cut). By AI agents, Wed Nov 11 2026. No macro, syntax, notation, axiom, sorry.
-/
import Derived.Test.YteeljnibglnflaaChecked
import GoSem.Claim
import GoSem.ClaimJoined
import GoSem.ClaimMapViews
import Derived.JoinedTies
import Derived.KernelRfl
namespace Go.Proofs.Yteeljnibglnflaa
/- THE CELL 'sum', in the pinned program and in every row, IS THE sha256 OF THE DUMP (.gsa) THAT YteeljnibglnflaaProg.lean LOADS. Nothing in Lean hashes anything: it is a label: what it is worth is what the hold of that sum in a sandbox is worth. -/
noncomputable def Try.pinned : Pinned := { name := "yteeljnibglnflaa", sum := "3f4eb84f6a978f136e65273a123f7b1af0788d78e0aaff56716a1dc3cd3bcb34", checked := Try.checked }
namespace Rows
def none {H : Type} : Left H := { results := [], args := [] }

/-- 'aviarylaw19.BeamGrows': WHATEVER THE INPUT: true; the input reads as it did. -/
def beamGrowsSpec : ChangeSpec := { name := "beamGrows", fn := fun _ => fun
  | [d] => { results := [.lit (.bool true)], args := [d] }
  | _ => none }
def beamGrowsRow : OpenClaim := { program := "yteeljnibglnflaa", sum := "3f4eb84f6a978f136e65273a123f7b1af0788d78e0aaff56716a1dc3cd3bcb34", func := "aviary/aviarylaw19.BeamGrows", spec := "beamGrows", unfollowed := true, recurses := true, apart := false }
def BeamGrowsSaid : Prop := beamGrowsRow.holds Try.pinned (OpenSpec.ofChange beamGrowsSpec)

/-- ITS FALSE NEIGHBOUR: 'it returns false'. Refute it at one input. -/
def beamGrowsWrong : ChangeSpec := { name := "beamGrows", fn := fun _ => fun
  | [d] => { results := [.lit (.bool false)], args := [d] }
  | _ => none }
def BeamGrowsWrongFalsely : Prop := beamGrowsRow.holds Try.pinned (OpenSpec.ofChange beamGrowsWrong)

/-- 'aviarylaw19.BeamOrder': WHATEVER THE INPUT: true; the input reads as it did. -/
def beamOrderSpec : ChangeSpec := { name := "beamOrder", fn := fun _ => fun
  | [d] => { results := [.lit (.bool true)], args := [d] }
  | _ => none }
def beamOrderRow : OpenClaim := { program := "yteeljnibglnflaa", sum := "3f4eb84f6a978f136e65273a123f7b1af0788d78e0aaff56716a1dc3cd3bcb34", func := "aviary/aviarylaw19.BeamOrder", spec := "beamOrder", unfollowed := true, recurses := true, apart := false }
def BeamOrderSaid : Prop := beamOrderRow.holds Try.pinned (OpenSpec.ofChange beamOrderSpec)

/-- ITS FALSE NEIGHBOUR: 'it returns false'. Refute it at one input. -/
def beamOrderWrong : ChangeSpec := { name := "beamOrder", fn := fun _ => fun
  | [d] => { results := [.lit (.bool false)], args := [d] }
  | _ => none }
def BeamOrderWrongFalsely : Prop := beamOrderRow.holds Try.pinned (OpenSpec.ofChange beamOrderWrong)

/-- 'aviarylaw19.BeamOne': WHATEVER THE INPUT: true; the input reads as it did. -/
def beamOneSpec : ChangeSpec := { name := "beamOne", fn := fun _ => fun
  | [d1, d2, d3] => { results := [.lit (.bool true)], args := [d1, d2, d3] }
  | _ => none }
def beamOneRow : OpenClaim := { program := "yteeljnibglnflaa", sum := "3f4eb84f6a978f136e65273a123f7b1af0788d78e0aaff56716a1dc3cd3bcb34", func := "aviary/aviarylaw19.BeamOne", spec := "beamOne", unfollowed := true, recurses := true, apart := false }
def BeamOneSaid : Prop := beamOneRow.holds Try.pinned (OpenSpec.ofChange beamOneSpec)

/-- ITS FALSE NEIGHBOUR: 'it returns false'. Refute it at one input. -/
def beamOneWrong : ChangeSpec := { name := "beamOne", fn := fun _ => fun
  | [d1, d2, d3] => { results := [.lit (.bool false)], args := [d1, d2, d3] }
  | _ => none }
def BeamOneWrongFalsely : Prop := beamOneRow.holds Try.pinned (OpenSpec.ofChange beamOneWrong)

/-- 'aviarylaw19.BeamWide': WHATEVER THE INPUT: true; the input reads as it did. -/
def beamWideSpec : ChangeSpec := { name := "beamWide", fn := fun _ => fun
  | [d] => { results := [.lit (.bool true)], args := [d] }
  | _ => none }
def beamWideRow : OpenClaim := { program := "yteeljnibglnflaa", sum := "3f4eb84f6a978f136e65273a123f7b1af0788d78e0aaff56716a1dc3cd3bcb34", func := "aviary/aviarylaw19.BeamWide", spec := "beamWide", unfollowed := true, recurses := true, apart := false }
def BeamWideSaid : Prop := beamWideRow.holds Try.pinned (OpenSpec.ofChange beamWideSpec)

/-- ITS FALSE NEIGHBOUR: 'it returns false'. Refute it at one input. -/
def beamWideWrong : ChangeSpec := { name := "beamWide", fn := fun _ => fun
  | [d] => { results := [.lit (.bool false)], args := [d] }
  | _ => none }
def BeamWideWrongFalsely : Prop := beamWideRow.holds Try.pinned (OpenSpec.ofChange beamWideWrong)

/-- 'aviarylaw19.BeamLong': WHATEVER THE INPUT: true; the input reads as it did. -/
def beamLongSpec : ChangeSpec := { name := "beamLong", fn := fun _ => fun
  | [d1, d2, d3, d4] => { results := [.lit (.bool true)], args := [d1, d2, d3, d4] }
  | _ => none }
def beamLongRow : OpenClaim := { program := "yteeljnibglnflaa", sum := "3f4eb84f6a978f136e65273a123f7b1af0788d78e0aaff56716a1dc3cd3bcb34", func := "aviary/aviarylaw19.BeamLong", spec := "beamLong", unfollowed := true, recurses := true, apart := false }
def BeamLongSaid : Prop := beamLongRow.holds Try.pinned (OpenSpec.ofChange beamLongSpec)

/-- ITS FALSE NEIGHBOUR: 'it returns false'. Refute it at one input. -/
def beamLongWrong : ChangeSpec := { name := "beamLong", fn := fun _ => fun
  | [d1, d2, d3, d4] => { results := [.lit (.bool false)], args := [d1, d2, d3, d4] }
  | _ => none }
def BeamLongWrongFalsely : Prop := beamLongRow.holds Try.pinned (OpenSpec.ofChange beamLongWrong)

/- THE SECOND FORM. 'bulk': how many values and letters a reading holds, each counted each time it is reached (what is shared counts as often as it is met; a slice's spare places count too). A statement '..UptoSaid' is the law's where the arguments, and the package variables that the reading takes, are together of bulk at most 1048576: NARROWER than '..Said'. Prove '..Said' where nothing that the law and all that it calls make is longer than what came in: it says more and counts as full. Else prove '..UptoSaid'. A law counts once. -/
mutual
def uptoBulk {H : Type} : DataW H → Nat
  | .lit (.string bytes) => bytes.length + 1
  | .lit _ => 1
  | .nil => 1
  | .ptr d => uptoBulk d + 1
  | .slice elems spare => uptoBulkAll elems + uptoBulkAll spare + 1
  | .agg parts => uptoBulkAll parts + 1
  | .iface _ d => uptoBulk d + 1
  | .map entries => uptoBulkEntries entries + 1
  | .held _ => 1
def uptoBulkAll {H : Type} : List (DataW H) → Nat
  | [] => 0
  | d :: r => uptoBulk d + uptoBulkAll r
def uptoBulkEntries {H : Type} : List (Lit × DataW H) → Nat
  | [] => 0
  | x :: r => uptoBulkEntry x + uptoBulkEntries r
def uptoBulkEntry {H : Type} : Lit × DataW H → Nat
  | (.string bytes, d) => bytes.length + uptoBulk d + 1
  | (_, d) => uptoBulk d + 1
 end
def uptoSmall : (H : Type) → List (DataW H) → Bool := fun _ ds => decide (uptoBulkAll ds ≤ 1048576)
def OpenSpec.upto (s : _root_.Go.ChangeSpec) : _root_.Go.OpenSpec := { _root_.Go.OpenSpec.ofChange s with cond := some uptoSmall }

/-- 'aviarylaw19.BeamGrows', WHERE WHAT IT READS IS OF BULK AT MOST 1048576: true; the input reads as it did. -/
def beamGrowsUptoRow : OpenClaim := { program := "yteeljnibglnflaa", sum := "3f4eb84f6a978f136e65273a123f7b1af0788d78e0aaff56716a1dc3cd3bcb34", func := "aviary/aviarylaw19.BeamGrows", spec := "beamGrows", unfollowed := true, recurses := true, apart := false, narrowed := true }
def BeamGrowsUptoSaid : Prop := beamGrowsUptoRow.holds Try.pinned (OpenSpec.upto beamGrowsSpec)

/-- 'aviarylaw19.BeamOrder', WHERE WHAT IT READS IS OF BULK AT MOST 1048576: true; the input reads as it did. -/
def beamOrderUptoRow : OpenClaim := { program := "yteeljnibglnflaa", sum := "3f4eb84f6a978f136e65273a123f7b1af0788d78e0aaff56716a1dc3cd3bcb34", func := "aviary/aviarylaw19.BeamOrder", spec := "beamOrder", unfollowed := true, recurses := true, apart := false, narrowed := true }
def BeamOrderUptoSaid : Prop := beamOrderUptoRow.holds Try.pinned (OpenSpec.upto beamOrderSpec)

/-- 'aviarylaw19.BeamOne', WHERE WHAT IT READS IS OF BULK AT MOST 1048576: true; the input reads as it did. -/
def beamOneUptoRow : OpenClaim := { program := "yteeljnibglnflaa", sum := "3f4eb84f6a978f136e65273a123f7b1af0788d78e0aaff56716a1dc3cd3bcb34", func := "aviary/aviarylaw19.BeamOne", spec := "beamOne", unfollowed := true, recurses := true, apart := false, narrowed := true }
def BeamOneUptoSaid : Prop := beamOneUptoRow.holds Try.pinned (OpenSpec.upto beamOneSpec)

/-- 'aviarylaw19.BeamWide', WHERE WHAT IT READS IS OF BULK AT MOST 1048576: true; the input reads as it did. -/
def beamWideUptoRow : OpenClaim := { program := "yteeljnibglnflaa", sum := "3f4eb84f6a978f136e65273a123f7b1af0788d78e0aaff56716a1dc3cd3bcb34", func := "aviary/aviarylaw19.BeamWide", spec := "beamWide", unfollowed := true, recurses := true, apart := false, narrowed := true }
def BeamWideUptoSaid : Prop := beamWideUptoRow.holds Try.pinned (OpenSpec.upto beamWideSpec)

/-- 'aviarylaw19.BeamLong', WHERE WHAT IT READS IS OF BULK AT MOST 1048576: true; the input reads as it did. -/
def beamLongUptoRow : OpenClaim := { program := "yteeljnibglnflaa", sum := "3f4eb84f6a978f136e65273a123f7b1af0788d78e0aaff56716a1dc3cd3bcb34", func := "aviary/aviarylaw19.BeamLong", spec := "beamLong", unfollowed := true, recurses := true, apart := false, narrowed := true }
def BeamLongUptoSaid : Prop := beamLongUptoRow.holds Try.pinned (OpenSpec.upto beamLongSpec)

end Rows
end Go.Proofs.Yteeljnibglnflaa
