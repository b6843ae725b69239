/-
  No cell of these rows narrows 'for every input' (looked for: loops, veiled, ifaces, maps, wideKeys, modest, calm, conditions, laid).
  DERIVED. THE GIVEN ROWS OF THIS SEAT. 6 by the template 'for every input the law returns true; each argument reads behind the call as it read before'; 0 by the template 'total and deterministic' (their statements: YthliomlmhfjhnaaGreatTotals.lean).
  GIVEN WITH THE SEED: the statements are not yours to turn. If you find one false, say at which input.
  Laid BY PROGRAM, IN A SANDBOX (cutbox-rows.mjs): the forced cells as the released guide's own fill.sh prints them over the translation a0364f3a1caf9bf2… (all of the seat's roots in one cut). By AI agents, Wed Nov 11 2026. No macro, syntax, notation, axiom, sorry.
-/
import Derived.Test.YthliomlmhfjhnaaGreatChecked
import GoSem.Claim
import GoSem.ClaimJoined
import GoSem.ClaimMapViews
import Derived.JoinedTies
import Derived.KernelRfl
namespace Go.Proofs.YthliomlmhfjhnaaGreat
/- THE CELL 'sum', in the pinned program and in every row, IS THE sha256 OF THE DUMP (.gsa) THAT YthliomlmhfjhnaaGreatProg.lean LOADS. Nothing in Lean hashes anything: it is a label: what it is worth is what the hold of that sum in a sandbox is worth. -/
noncomputable def Tryz.pinned : Pinned := { name := "ythliomlmhfjhnaagreat", sum := "a0364f3a1caf9bf266f4f47cf1ed212e46f120ddbb3430d98905f48a11447006", checked := Tryz.checked }
namespace Rows
def none {H : Type} : Left H := { results := [], args := [] }

/-- 'aviarylaw17.ModelSteps': WHATEVER THE INPUT: true; the input reads as it did. -/
def modelStepsSpec : ChangeSpec := { name := "modelSteps", fn := fun _ => fun
  | [d1, d2, d3, d4, d5] => { results := [.lit (.bool true)], args := [d1, d2, d3, d4, d5] }
  | _ => none }
def modelStepsRow : OpenClaim := { program := "ythliomlmhfjhnaagreat", sum := "a0364f3a1caf9bf266f4f47cf1ed212e46f120ddbb3430d98905f48a11447006", func := "aviary/aviarylaw17.ModelSteps", spec := "modelSteps", unfollowed := true, recurses := true, apart := false }
def ModelStepsSaid : Prop := modelStepsRow.holds Tryz.pinned (OpenSpec.ofChange modelStepsSpec)

/-- ITS FALSE NEIGHBOUR: 'it returns false'. Refute it at one input. -/
def modelStepsWrong : ChangeSpec := { name := "modelSteps", fn := fun _ => fun
  | [d1, d2, d3, d4, d5] => { results := [.lit (.bool false)], args := [d1, d2, d3, d4, d5] }
  | _ => none }
def ModelStepsWrongFalsely : Prop := modelStepsRow.holds Tryz.pinned (OpenSpec.ofChange modelStepsWrong)

/-- 'aviarylaw17.ModelRuns': WHATEVER THE INPUT: true; the input reads as it did. -/
def modelRunsSpec : ChangeSpec := { name := "modelRuns", fn := fun _ => fun
  | [d1, d2] => { results := [.lit (.bool true)], args := [d1, d2] }
  | _ => none }
def modelRunsRow : OpenClaim := { program := "ythliomlmhfjhnaagreat", sum := "a0364f3a1caf9bf266f4f47cf1ed212e46f120ddbb3430d98905f48a11447006", func := "aviary/aviarylaw17.ModelRuns", spec := "modelRuns", unfollowed := true, recurses := true, apart := false }
def ModelRunsSaid : Prop := modelRunsRow.holds Tryz.pinned (OpenSpec.ofChange modelRunsSpec)

/-- ITS FALSE NEIGHBOUR: 'it returns false'. Refute it at one input. -/
def modelRunsWrong : ChangeSpec := { name := "modelRuns", fn := fun _ => fun
  | [d1, d2] => { results := [.lit (.bool false)], args := [d1, d2] }
  | _ => none }
def ModelRunsWrongFalsely : Prop := modelRunsRow.holds Tryz.pinned (OpenSpec.ofChange modelRunsWrong)

/-- 'aviarylaw17.ModelFewer': WHATEVER THE INPUT: true; the input reads as it did. -/
def modelFewerSpec : ChangeSpec := { name := "modelFewer", fn := fun _ => fun
  | [d1, d2] => { results := [.lit (.bool true)], args := [d1, d2] }
  | _ => none }
def modelFewerRow : OpenClaim := { program := "ythliomlmhfjhnaagreat", sum := "a0364f3a1caf9bf266f4f47cf1ed212e46f120ddbb3430d98905f48a11447006", func := "aviary/aviarylaw17.ModelFewer", spec := "modelFewer", unfollowed := true, recurses := true, apart := false }
def ModelFewerSaid : Prop := modelFewerRow.holds Tryz.pinned (OpenSpec.ofChange modelFewerSpec)

/-- ITS FALSE NEIGHBOUR: 'it returns false'. Refute it at one input. -/
def modelFewerWrong : ChangeSpec := { name := "modelFewer", fn := fun _ => fun
  | [d1, d2] => { results := [.lit (.bool false)], args := [d1, d2] }
  | _ => none }
def ModelFewerWrongFalsely : Prop := modelFewerRow.holds Tryz.pinned (OpenSpec.ofChange modelFewerWrong)

/-- 'aviarylaw17.ModelWindow': WHATEVER THE INPUT: true; the input reads as it did. -/
def modelWindowSpec : ChangeSpec := { name := "modelWindow", fn := fun _ => fun
  | [d1, d2] => { results := [.lit (.bool true)], args := [d1, d2] }
  | _ => none }
def modelWindowRow : OpenClaim := { program := "ythliomlmhfjhnaagreat", sum := "a0364f3a1caf9bf266f4f47cf1ed212e46f120ddbb3430d98905f48a11447006", func := "aviary/aviarylaw17.ModelWindow", spec := "modelWindow", unfollowed := true, recurses := true, apart := false }
def ModelWindowSaid : Prop := modelWindowRow.holds Tryz.pinned (OpenSpec.ofChange modelWindowSpec)

/-- ITS FALSE NEIGHBOUR: 'it returns false'. Refute it at one input. -/
def modelWindowWrong : ChangeSpec := { name := "modelWindow", fn := fun _ => fun
  | [d1, d2] => { results := [.lit (.bool false)], args := [d1, d2] }
  | _ => none }
def ModelWindowWrongFalsely : Prop := modelWindowRow.holds Tryz.pinned (OpenSpec.ofChange modelWindowWrong)

/-- 'aviarylaw17.ModelNothing': WHATEVER THE INPUT: true; the input reads as it did. -/
def modelNothingSpec : ChangeSpec := { name := "modelNothing", fn := fun _ => fun
  | [d] => { results := [.lit (.bool true)], args := [d] }
  | _ => none }
def modelNothingRow : OpenClaim := { program := "ythliomlmhfjhnaagreat", sum := "a0364f3a1caf9bf266f4f47cf1ed212e46f120ddbb3430d98905f48a11447006", func := "aviary/aviarylaw17.ModelNothing", spec := "modelNothing", unfollowed := true, recurses := true, apart := false }
def ModelNothingSaid : Prop := modelNothingRow.holds Tryz.pinned (OpenSpec.ofChange modelNothingSpec)

/-- ITS FALSE NEIGHBOUR: 'it returns false'. Refute it at one input. -/
def modelNothingWrong : ChangeSpec := { name := "modelNothing", fn := fun _ => fun
  | [d] => { results := [.lit (.bool false)], args := [d] }
  | _ => none }
def ModelNothingWrongFalsely : Prop := modelNothingRow.holds Tryz.pinned (OpenSpec.ofChange modelNothingWrong)

/-- 'aviarylaw17.ModelSizes': WHATEVER THE INPUT: true; the input reads as it did. -/
def modelSizesSpec : ChangeSpec := { name := "modelSizes", fn := fun _ => fun
  | [d] => { results := [.lit (.bool true)], args := [d] }
  | _ => none }
def modelSizesRow : OpenClaim := { program := "ythliomlmhfjhnaagreat", sum := "a0364f3a1caf9bf266f4f47cf1ed212e46f120ddbb3430d98905f48a11447006", func := "aviary/aviarylaw17.ModelSizes", spec := "modelSizes", unfollowed := true, recurses := true, apart := false }
def ModelSizesSaid : Prop := modelSizesRow.holds Tryz.pinned (OpenSpec.ofChange modelSizesSpec)

/-- ITS FALSE NEIGHBOUR: 'it returns false'. Refute it at one input. -/
def modelSizesWrong : ChangeSpec := { name := "modelSizes", fn := fun _ => fun
  | [d] => { results := [.lit (.bool false)], args := [d] }
  | _ => none }
def ModelSizesWrongFalsely : Prop := modelSizesRow.holds Tryz.pinned (OpenSpec.ofChange modelSizesWrong)

/- THE SECOND FORM. 'bulk': how many values and letters a reading holds, each counted each time it is reached (what is shared counts as often as it is met; a slice's spare places count too). A statement '..UptoSaid' is the law's where the arguments, and the package variables that the reading takes, are together of bulk at most 1048576: NARROWER than '..Said'. Prove '..Said' where nothing that the law and all that it calls make is longer than what came in: it says more and counts as full. Else prove '..UptoSaid'. A law counts once. -/
mutual
def uptoBulk {H : Type} : DataW H → Nat
  | .lit (.string bytes) => bytes.length + 1
  | .lit _ => 1
  | .nil => 1
  | .ptr d => uptoBulk d + 1
  | .slice elems spare => uptoBulkAll elems + uptoBulkAll spare + 1
  | .agg parts => uptoBulkAll parts + 1
  | .iface _ d => uptoBulk d + 1
  | .map entries => uptoBulkEntries entries + 1
  | .held _ => 1
def uptoBulkAll {H : Type} : List (DataW H) → Nat
  | [] => 0
  | d :: r => uptoBulk d + uptoBulkAll r
def uptoBulkEntries {H : Type} : List (Lit × DataW H) → Nat
  | [] => 0
  | x :: r => uptoBulkEntry x + uptoBulkEntries r
def uptoBulkEntry {H : Type} : Lit × DataW H → Nat
  | (.string bytes, d) => bytes.length + uptoBulk d + 1
  | (_, d) => uptoBulk d + 1
 end
def uptoSmall : (H : Type) → List (DataW H) → Bool := fun _ ds => decide (uptoBulkAll ds ≤ 1048576)
def OpenSpec.upto (s : _root_.Go.ChangeSpec) : _root_.Go.OpenSpec := { _root_.Go.OpenSpec.ofChange s with cond := some uptoSmall }

/-- 'aviarylaw17.ModelSteps', WHERE WHAT IT READS IS OF BULK AT MOST 1048576: true; the input reads as it did. -/
def modelStepsUptoRow : OpenClaim := { program := "ythliomlmhfjhnaagreat", sum := "a0364f3a1caf9bf266f4f47cf1ed212e46f120ddbb3430d98905f48a11447006", func := "aviary/aviarylaw17.ModelSteps", spec := "modelSteps", unfollowed := true, recurses := true, apart := false, narrowed := true }
def ModelStepsUptoSaid : Prop := modelStepsUptoRow.holds Tryz.pinned (OpenSpec.upto modelStepsSpec)

/-- 'aviarylaw17.ModelRuns', WHERE WHAT IT READS IS OF BULK AT MOST 1048576: true; the input reads as it did. -/
def modelRunsUptoRow : OpenClaim := { program := "ythliomlmhfjhnaagreat", sum := "a0364f3a1caf9bf266f4f47cf1ed212e46f120ddbb3430d98905f48a11447006", func := "aviary/aviarylaw17.ModelRuns", spec := "modelRuns", unfollowed := true, recurses := true, apart := false, narrowed := true }
def ModelRunsUptoSaid : Prop := modelRunsUptoRow.holds Tryz.pinned (OpenSpec.upto modelRunsSpec)

/-- 'aviarylaw17.ModelFewer', WHERE WHAT IT READS IS OF BULK AT MOST 1048576: true; the input reads as it did. -/
def modelFewerUptoRow : OpenClaim := { program := "ythliomlmhfjhnaagreat", sum := "a0364f3a1caf9bf266f4f47cf1ed212e46f120ddbb3430d98905f48a11447006", func := "aviary/aviarylaw17.ModelFewer", spec := "modelFewer", unfollowed := true, recurses := true, apart := false, narrowed := true }
def ModelFewerUptoSaid : Prop := modelFewerUptoRow.holds Tryz.pinned (OpenSpec.upto modelFewerSpec)

/-- 'aviarylaw17.ModelWindow', WHERE WHAT IT READS IS OF BULK AT MOST 1048576: true; the input reads as it did. -/
def modelWindowUptoRow : OpenClaim := { program := "ythliomlmhfjhnaagreat", sum := "a0364f3a1caf9bf266f4f47cf1ed212e46f120ddbb3430d98905f48a11447006", func := "aviary/aviarylaw17.ModelWindow", spec := "modelWindow", unfollowed := true, recurses := true, apart := false, narrowed := true }
def ModelWindowUptoSaid : Prop := modelWindowUptoRow.holds Tryz.pinned (OpenSpec.upto modelWindowSpec)

/-- 'aviarylaw17.ModelNothing', WHERE WHAT IT READS IS OF BULK AT MOST 1048576: true; the input reads as it did. -/
def modelNothingUptoRow : OpenClaim := { program := "ythliomlmhfjhnaagreat", sum := "a0364f3a1caf9bf266f4f47cf1ed212e46f120ddbb3430d98905f48a11447006", func := "aviary/aviarylaw17.ModelNothing", spec := "modelNothing", unfollowed := true, recurses := true, apart := false, narrowed := true }
def ModelNothingUptoSaid : Prop := modelNothingUptoRow.holds Tryz.pinned (OpenSpec.upto modelNothingSpec)

/-- 'aviarylaw17.ModelSizes', WHERE WHAT IT READS IS OF BULK AT MOST 1048576: true; the input reads as it did. -/
def modelSizesUptoRow : OpenClaim := { program := "ythliomlmhfjhnaagreat", sum := "a0364f3a1caf9bf266f4f47cf1ed212e46f120ddbb3430d98905f48a11447006", func := "aviary/aviarylaw17.ModelSizes", spec := "modelSizes", unfollowed := true, recurses := true, apart := false, narrowed := true }
def ModelSizesUptoSaid : Prop := modelSizesUptoRow.holds Tryz.pinned (OpenSpec.upto modelSizesSpec)

end Rows
end Go.Proofs.YthliomlmhfjhnaaGreat
