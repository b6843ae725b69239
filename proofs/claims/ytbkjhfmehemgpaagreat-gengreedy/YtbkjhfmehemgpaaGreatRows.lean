/-
  No cell of these rows narrows 'for every input' (looked for: loops, veiled, ifaces, maps, wideKeys, modest, calm, conditions, laid).
  DERIVED. THE GIVEN ROWS OF THIS SEAT. 5 by the template 'for every input the law returns true; each argument reads behind the call as it read before'; 0 by the template 'total and deterministic' (their statements: YtbkjhfmehemgpaaGreatTotals.lean).
  GIVEN WITH THE SEED: the statements are not yours to turn. If you find one false, say at which input.
  Laid BY PROGRAM, IN A SANDBOX (cutbox-rows.mjs): the forced cells as the released guide's own fill.sh prints them over the translation 735a3c1740b38d7b… (all of the seat's roots in one cut). By AI agents, Wed Nov 11 2026. No macro, syntax, notation, axiom, sorry.
-/
import Derived.Test.YtbkjhfmehemgpaaGreatChecked
import GoSem.Claim
import GoSem.ClaimJoined
import GoSem.ClaimMapViews
import Derived.JoinedTies
import Derived.KernelRfl
namespace Go.Proofs.YtbkjhfmehemgpaaGreat
/- THE CELL 'sum', in the pinned program and in every row, IS THE sha256 OF THE DUMP (.gsa) THAT YtbkjhfmehemgpaaGreatProg.lean LOADS. Nothing in Lean hashes anything: it is a label: what it is worth is what the hold of that sum in a sandbox is worth. -/
noncomputable def Tryz.pinned : Pinned := { name := "ytbkjhfmehemgpaagreat", sum := "735a3c1740b38d7b6863c702ca7a2ba6b1d2021768c0d6976aaa118190cddf2e", checked := Tryz.checked }
namespace Rows
def none {H : Type} : Left H := { results := [], args := [] }

/-- 'aviarylaw20.GenAnswers': WHATEVER THE INPUT: true; the input reads as it did. -/
def genAnswersSpec : ChangeSpec := { name := "genAnswers", fn := fun _ => fun
  | [d] => { results := [.lit (.bool true)], args := [d] }
  | _ => none }
def genAnswersRow : OpenClaim := { program := "ytbkjhfmehemgpaagreat", sum := "735a3c1740b38d7b6863c702ca7a2ba6b1d2021768c0d6976aaa118190cddf2e", func := "aviary/aviarylaw20.GenAnswers", spec := "genAnswers", inPlace := ["math.RoundToEven"], unfollowed := true, recurses := true, apart := false }
def GenAnswersSaid : Prop := genAnswersRow.holds Tryz.pinned (OpenSpec.ofChange genAnswersSpec)

/-- ITS FALSE NEIGHBOUR: 'it returns false'. Refute it at one input. -/
def genAnswersWrong : ChangeSpec := { name := "genAnswers", fn := fun _ => fun
  | [d] => { results := [.lit (.bool false)], args := [d] }
  | _ => none }
def GenAnswersWrongFalsely : Prop := genAnswersRow.holds Tryz.pinned (OpenSpec.ofChange genAnswersWrong)

/-- 'aviarylaw20.GenGreedy': WHATEVER THE INPUT: true; the input reads as it did. -/
def genGreedySpec : ChangeSpec := { name := "genGreedy", fn := fun _ => fun
  | [d] => { results := [.lit (.bool true)], args := [d] }
  | _ => none }
def genGreedyRow : OpenClaim := { program := "ytbkjhfmehemgpaagreat", sum := "735a3c1740b38d7b6863c702ca7a2ba6b1d2021768c0d6976aaa118190cddf2e", func := "aviary/aviarylaw20.GenGreedy", spec := "genGreedy", inPlace := ["math.RoundToEven"], unfollowed := true, recurses := true, apart := false }
def GenGreedySaid : Prop := genGreedyRow.holds Tryz.pinned (OpenSpec.ofChange genGreedySpec)

/-- ITS FALSE NEIGHBOUR: 'it returns false'. Refute it at one input. -/
def genGreedyWrong : ChangeSpec := { name := "genGreedy", fn := fun _ => fun
  | [d] => { results := [.lit (.bool false)], args := [d] }
  | _ => none }
def GenGreedyWrongFalsely : Prop := genGreedyRow.holds Tryz.pinned (OpenSpec.ofChange genGreedyWrong)

/-- 'aviarylaw20.GenLonger': WHATEVER THE INPUT: true; the input reads as it did. -/
def genLongerSpec : ChangeSpec := { name := "genLonger", fn := fun _ => fun
  | [d1, d2] => { results := [.lit (.bool true)], args := [d1, d2] }
  | _ => none }
def genLongerRow : OpenClaim := { program := "ytbkjhfmehemgpaagreat", sum := "735a3c1740b38d7b6863c702ca7a2ba6b1d2021768c0d6976aaa118190cddf2e", func := "aviary/aviarylaw20.GenLonger", spec := "genLonger", inPlace := ["math.RoundToEven"], unfollowed := true, recurses := true, apart := false }
def GenLongerSaid : Prop := genLongerRow.holds Tryz.pinned (OpenSpec.ofChange genLongerSpec)

/-- ITS FALSE NEIGHBOUR: 'it returns false'. Refute it at one input. -/
def genLongerWrong : ChangeSpec := { name := "genLonger", fn := fun _ => fun
  | [d1, d2] => { results := [.lit (.bool false)], args := [d1, d2] }
  | _ => none }
def GenLongerWrongFalsely : Prop := genLongerRow.holds Tryz.pinned (OpenSpec.ofChange genLongerWrong)

/-- 'aviarylaw20.GenStops': WHATEVER THE INPUT: true; the input reads as it did. -/
def genStopsSpec : ChangeSpec := { name := "genStops", fn := fun _ => fun
  | [d] => { results := [.lit (.bool true)], args := [d] }
  | _ => none }
def genStopsRow : OpenClaim := { program := "ytbkjhfmehemgpaagreat", sum := "735a3c1740b38d7b6863c702ca7a2ba6b1d2021768c0d6976aaa118190cddf2e", func := "aviary/aviarylaw20.GenStops", spec := "genStops", inPlace := ["math.RoundToEven"], unfollowed := true, recurses := true, apart := false }
def GenStopsSaid : Prop := genStopsRow.holds Tryz.pinned (OpenSpec.ofChange genStopsSpec)

/-- ITS FALSE NEIGHBOUR: 'it returns false'. Refute it at one input. -/
def genStopsWrong : ChangeSpec := { name := "genStops", fn := fun _ => fun
  | [d] => { results := [.lit (.bool false)], args := [d] }
  | _ => none }
def GenStopsWrongFalsely : Prop := genStopsRow.holds Tryz.pinned (OpenSpec.ofChange genStopsWrong)

/-- 'aviarylaw20.GenFields': WHATEVER THE INPUT: true; the input reads as it did. -/
def genFieldsSpec : ChangeSpec := { name := "genFields", fn := fun _ => fun
  | [d1, d2] => { results := [.lit (.bool true)], args := [d1, d2] }
  | _ => none }
def genFieldsRow : OpenClaim := { program := "ytbkjhfmehemgpaagreat", sum := "735a3c1740b38d7b6863c702ca7a2ba6b1d2021768c0d6976aaa118190cddf2e", func := "aviary/aviarylaw20.GenFields", spec := "genFields", inPlace := ["math.RoundToEven"], unfollowed := true, recurses := true, apart := false }
def GenFieldsSaid : Prop := genFieldsRow.holds Tryz.pinned (OpenSpec.ofChange genFieldsSpec)

/-- ITS FALSE NEIGHBOUR: 'it returns false'. Refute it at one input. -/
def genFieldsWrong : ChangeSpec := { name := "genFields", fn := fun _ => fun
  | [d1, d2] => { results := [.lit (.bool false)], args := [d1, d2] }
  | _ => none }
def GenFieldsWrongFalsely : Prop := genFieldsRow.holds Tryz.pinned (OpenSpec.ofChange genFieldsWrong)

/- THE SECOND FORM. 'bulk': how many values and letters a reading holds, each counted each time it is reached (what is shared counts as often as it is met; a slice's spare places count too). A statement '..UptoSaid' is the law's where the arguments, and the package variables that the reading takes, are together of bulk at most 1048576: NARROWER than '..Said'. Prove '..Said' where nothing that the law and all that it calls make is longer than what came in: it says more and counts as full. Else prove '..UptoSaid'. A law counts once. -/
mutual
def uptoBulk {H : Type} : DataW H → Nat
  | .lit (.string bytes) => bytes.length + 1
  | .lit _ => 1
  | .nil => 1
  | .ptr d => uptoBulk d + 1
  | .slice elems spare => uptoBulkAll elems + uptoBulkAll spare + 1
  | .agg parts => uptoBulkAll parts + 1
  | .iface _ d => uptoBulk d + 1
  | .map entries => uptoBulkEntries entries + 1
  | .held _ => 1
def uptoBulkAll {H : Type} : List (DataW H) → Nat
  | [] => 0
  | d :: r => uptoBulk d + uptoBulkAll r
def uptoBulkEntries {H : Type} : List (Lit × DataW H) → Nat
  | [] => 0
  | x :: r => uptoBulkEntry x + uptoBulkEntries r
def uptoBulkEntry {H : Type} : Lit × DataW H → Nat
  | (.string bytes, d) => bytes.length + uptoBulk d + 1
  | (_, d) => uptoBulk d + 1
 end
def uptoSmall : (H : Type) → List (DataW H) → Bool := fun _ ds => decide (uptoBulkAll ds ≤ 1048576)
def OpenSpec.upto (s : _root_.Go.ChangeSpec) : _root_.Go.OpenSpec := { _root_.Go.OpenSpec.ofChange s with cond := some uptoSmall }

/-- 'aviarylaw20.GenAnswers', WHERE WHAT IT READS IS OF BULK AT MOST 1048576: true; the input reads as it did. -/
def genAnswersUptoRow : OpenClaim := { program := "ytbkjhfmehemgpaagreat", sum := "735a3c1740b38d7b6863c702ca7a2ba6b1d2021768c0d6976aaa118190cddf2e", func := "aviary/aviarylaw20.GenAnswers", spec := "genAnswers", inPlace := ["math.RoundToEven"], unfollowed := true, recurses := true, apart := false, narrowed := true }
def GenAnswersUptoSaid : Prop := genAnswersUptoRow.holds Tryz.pinned (OpenSpec.upto genAnswersSpec)

/-- 'aviarylaw20.GenGreedy', WHERE WHAT IT READS IS OF BULK AT MOST 1048576: true; the input reads as it did. -/
def genGreedyUptoRow : OpenClaim := { program := "ytbkjhfmehemgpaagreat", sum := "735a3c1740b38d7b6863c702ca7a2ba6b1d2021768c0d6976aaa118190cddf2e", func := "aviary/aviarylaw20.GenGreedy", spec := "genGreedy", inPlace := ["math.RoundToEven"], unfollowed := true, recurses := true, apart := false, narrowed := true }
def GenGreedyUptoSaid : Prop := genGreedyUptoRow.holds Tryz.pinned (OpenSpec.upto genGreedySpec)

/-- 'aviarylaw20.GenLonger', WHERE WHAT IT READS IS OF BULK AT MOST 1048576: true; the input reads as it did. -/
def genLongerUptoRow : OpenClaim := { program := "ytbkjhfmehemgpaagreat", sum := "735a3c1740b38d7b6863c702ca7a2ba6b1d2021768c0d6976aaa118190cddf2e", func := "aviary/aviarylaw20.GenLonger", spec := "genLonger", inPlace := ["math.RoundToEven"], unfollowed := true, recurses := true, apart := false, narrowed := true }
def GenLongerUptoSaid : Prop := genLongerUptoRow.holds Tryz.pinned (OpenSpec.upto genLongerSpec)

/-- 'aviarylaw20.GenStops', WHERE WHAT IT READS IS OF BULK AT MOST 1048576: true; the input reads as it did. -/
def genStopsUptoRow : OpenClaim := { program := "ytbkjhfmehemgpaagreat", sum := "735a3c1740b38d7b6863c702ca7a2ba6b1d2021768c0d6976aaa118190cddf2e", func := "aviary/aviarylaw20.GenStops", spec := "genStops", inPlace := ["math.RoundToEven"], unfollowed := true, recurses := true, apart := false, narrowed := true }
def GenStopsUptoSaid : Prop := genStopsUptoRow.holds Tryz.pinned (OpenSpec.upto genStopsSpec)

/-- 'aviarylaw20.GenFields', WHERE WHAT IT READS IS OF BULK AT MOST 1048576: true; the input reads as it did. -/
def genFieldsUptoRow : OpenClaim := { program := "ytbkjhfmehemgpaagreat", sum := "735a3c1740b38d7b6863c702ca7a2ba6b1d2021768c0d6976aaa118190cddf2e", func := "aviary/aviarylaw20.GenFields", spec := "genFields", inPlace := ["math.RoundToEven"], unfollowed := true, recurses := true, apart := false, narrowed := true }
def GenFieldsUptoSaid : Prop := genFieldsUptoRow.holds Tryz.pinned (OpenSpec.upto genFieldsSpec)

end Rows
end Go.Proofs.YtbkjhfmehemgpaaGreat
