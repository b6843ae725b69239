/-
  No cell of these rows narrows 'for every input' (looked for: loops, veiled, ifaces, maps, wideKeys, modest, calm, conditions, laid).
  DERIVED. THE GIVEN ROWS OF THIS SEAT. 5 by the template 'for every input the law returns true; each argument reads behind the call as it read before'; 0 by the template 'total and deterministic' (their statements: YtlpmndlefbghoaaTotals.lean).
  GIVEN WITH THE SEED: the statements are not yours to turn. If you find one false, say at which input.
  Laid BY PROGRAM, IN A SANDBOX (cutbox-rows.mjs): the forced cells as the released guide's own fill.sh prints them over the translation 32cff50ddd101360… (all of the seat's roots in one cut). By AI agents, Wed Nov 11 2026. No macro, syntax, notation, axiom, sorry.
-/
import Derived.Test.YtlpmndlefbghoaaChecked
import GoSem.Claim
import GoSem.ClaimJoined
import GoSem.ClaimMapViews
import Derived.JoinedTies
import Derived.KernelRfl
namespace Go.Proofs.Ytlpmndlefbghoaa
/- THE CELL 'sum', in the pinned program and in every row, IS THE sha256 OF THE DUMP (.gsa) THAT YtlpmndlefbghoaaProg.lean LOADS. Nothing in Lean hashes anything: it is a label: what it is worth is what the hold of that sum in a sandbox is worth. -/
noncomputable def Try.pinned : Pinned := { name := "ytlpmndlefbghoaa", sum := "32cff50ddd1013609bc83bc5cd0b109758f6a3628e48e37a68a0fb1d00dc1c66", checked := Try.checked }
namespace Rows
def none {H : Type} : Left H := { results := [], args := [] }

/-- 'aviarylaw16.ExpertMixes': WHATEVER THE INPUT: true; the input reads as it did. -/
def expertMixesSpec : ChangeSpec := { name := "expertMixes", fn := fun _ => fun
  | [d] => { results := [.lit (.bool true)], args := [d] }
  | _ => none }
def expertMixesRow : OpenClaim := { program := "ytlpmndlefbghoaa", sum := "32cff50ddd1013609bc83bc5cd0b109758f6a3628e48e37a68a0fb1d00dc1c66", func := "aviary/aviarylaw16.ExpertMixes", spec := "expertMixes", unfollowed := true, recurses := true, apart := false }
def ExpertMixesSaid : Prop := expertMixesRow.holds Try.pinned (OpenSpec.ofChange expertMixesSpec)

/-- ITS FALSE NEIGHBOUR: 'it returns false'. Refute it at one input. -/
def expertMixesWrong : ChangeSpec := { name := "expertMixes", fn := fun _ => fun
  | [d] => { results := [.lit (.bool false)], args := [d] }
  | _ => none }
def ExpertMixesWrongFalsely : Prop := expertMixesRow.holds Try.pinned (OpenSpec.ofChange expertMixesWrong)

/-- 'aviarylaw16.ExpertOnes': WHATEVER THE INPUT: true; the input reads as it did. -/
def expertOnesSpec : ChangeSpec := { name := "expertOnes", fn := fun _ => fun
  | [d1, d2, d3, d4] => { results := [.lit (.bool true)], args := [d1, d2, d3, d4] }
  | _ => none }
def expertOnesRow : OpenClaim := { program := "ytlpmndlefbghoaa", sum := "32cff50ddd1013609bc83bc5cd0b109758f6a3628e48e37a68a0fb1d00dc1c66", func := "aviary/aviarylaw16.ExpertOnes", spec := "expertOnes", unfollowed := true, recurses := true, apart := false }
def ExpertOnesSaid : Prop := expertOnesRow.holds Try.pinned (OpenSpec.ofChange expertOnesSpec)

/-- ITS FALSE NEIGHBOUR: 'it returns false'. Refute it at one input. -/
def expertOnesWrong : ChangeSpec := { name := "expertOnes", fn := fun _ => fun
  | [d1, d2, d3, d4] => { results := [.lit (.bool false)], args := [d1, d2, d3, d4] }
  | _ => none }
def ExpertOnesWrongFalsely : Prop := expertOnesRow.holds Try.pinned (OpenSpec.ofChange expertOnesWrong)

/-- 'aviarylaw16.ExpertFirst': WHATEVER THE INPUT: true; the input reads as it did. -/
def expertFirstSpec : ChangeSpec := { name := "expertFirst", fn := fun _ => fun
  | [d] => { results := [.lit (.bool true)], args := [d] }
  | _ => none }
def expertFirstRow : OpenClaim := { program := "ytlpmndlefbghoaa", sum := "32cff50ddd1013609bc83bc5cd0b109758f6a3628e48e37a68a0fb1d00dc1c66", func := "aviary/aviarylaw16.ExpertFirst", spec := "expertFirst", unfollowed := true, recurses := true, apart := false }
def ExpertFirstSaid : Prop := expertFirstRow.holds Try.pinned (OpenSpec.ofChange expertFirstSpec)

/-- ITS FALSE NEIGHBOUR: 'it returns false'. Refute it at one input. -/
def expertFirstWrong : ChangeSpec := { name := "expertFirst", fn := fun _ => fun
  | [d] => { results := [.lit (.bool false)], args := [d] }
  | _ => none }
def ExpertFirstWrongFalsely : Prop := expertFirstRow.holds Try.pinned (OpenSpec.ofChange expertFirstWrong)

/-- 'aviarylaw16.ExpertOthers': WHATEVER THE INPUT: true; the input reads as it did. -/
def expertOthersSpec : ChangeSpec := { name := "expertOthers", fn := fun _ => fun
  | [d1, d2] => { results := [.lit (.bool true)], args := [d1, d2] }
  | _ => none }
def expertOthersRow : OpenClaim := { program := "ytlpmndlefbghoaa", sum := "32cff50ddd1013609bc83bc5cd0b109758f6a3628e48e37a68a0fb1d00dc1c66", func := "aviary/aviarylaw16.ExpertOthers", spec := "expertOthers", unfollowed := true, recurses := true, apart := false }
def ExpertOthersSaid : Prop := expertOthersRow.holds Try.pinned (OpenSpec.ofChange expertOthersSpec)

/-- ITS FALSE NEIGHBOUR: 'it returns false'. Refute it at one input. -/
def expertOthersWrong : ChangeSpec := { name := "expertOthers", fn := fun _ => fun
  | [d1, d2] => { results := [.lit (.bool false)], args := [d1, d2] }
  | _ => none }
def ExpertOthersWrongFalsely : Prop := expertOthersRow.holds Try.pinned (OpenSpec.ofChange expertOthersWrong)

/-- 'aviarylaw16.ExpertNought': WHATEVER THE INPUT: true; the input reads as it did. -/
def expertNoughtSpec : ChangeSpec := { name := "expertNought", fn := fun _ => fun
  | [d] => { results := [.lit (.bool true)], args := [d] }
  | _ => none }
def expertNoughtRow : OpenClaim := { program := "ytlpmndlefbghoaa", sum := "32cff50ddd1013609bc83bc5cd0b109758f6a3628e48e37a68a0fb1d00dc1c66", func := "aviary/aviarylaw16.ExpertNought", spec := "expertNought", unfollowed := true, recurses := true, apart := false }
def ExpertNoughtSaid : Prop := expertNoughtRow.holds Try.pinned (OpenSpec.ofChange expertNoughtSpec)

/-- ITS FALSE NEIGHBOUR: 'it returns false'. Refute it at one input. -/
def expertNoughtWrong : ChangeSpec := { name := "expertNought", fn := fun _ => fun
  | [d] => { results := [.lit (.bool false)], args := [d] }
  | _ => none }
def ExpertNoughtWrongFalsely : Prop := expertNoughtRow.holds Try.pinned (OpenSpec.ofChange expertNoughtWrong)

/- THE SECOND FORM. 'bulk': how many values and letters a reading holds, each counted each time it is reached (what is shared counts as often as it is met; a slice's spare places count too). A statement '..UptoSaid' is the law's where the arguments, and the package variables that the reading takes, are together of bulk at most 1048576: NARROWER than '..Said'. Prove '..Said' where nothing that the law and all that it calls make is longer than what came in: it says more and counts as full. Else prove '..UptoSaid'. A law counts once. -/
mutual
def uptoBulk {H : Type} : DataW H → Nat
  | .lit (.string bytes) => bytes.length + 1
  | .lit _ => 1
  | .nil => 1
  | .ptr d => uptoBulk d + 1
  | .slice elems spare => uptoBulkAll elems + uptoBulkAll spare + 1
  | .agg parts => uptoBulkAll parts + 1
  | .iface _ d => uptoBulk d + 1
  | .map entries => uptoBulkEntries entries + 1
  | .held _ => 1
def uptoBulkAll {H : Type} : List (DataW H) → Nat
  | [] => 0
  | d :: r => uptoBulk d + uptoBulkAll r
def uptoBulkEntries {H : Type} : List (Lit × DataW H) → Nat
  | [] => 0
  | x :: r => uptoBulkEntry x + uptoBulkEntries r
def uptoBulkEntry {H : Type} : Lit × DataW H → Nat
  | (.string bytes, d) => bytes.length + uptoBulk d + 1
  | (_, d) => uptoBulk d + 1
 end
def uptoSmall : (H : Type) → List (DataW H) → Bool := fun _ ds => decide (uptoBulkAll ds ≤ 1048576)
def OpenSpec.upto (s : _root_.Go.ChangeSpec) : _root_.Go.OpenSpec := { _root_.Go.OpenSpec.ofChange s with cond := some uptoSmall }

/-- 'aviarylaw16.ExpertMixes', WHERE WHAT IT READS IS OF BULK AT MOST 1048576: true; the input reads as it did. -/
def expertMixesUptoRow : OpenClaim := { program := "ytlpmndlefbghoaa", sum := "32cff50ddd1013609bc83bc5cd0b109758f6a3628e48e37a68a0fb1d00dc1c66", func := "aviary/aviarylaw16.ExpertMixes", spec := "expertMixes", unfollowed := true, recurses := true, apart := false, narrowed := true }
def ExpertMixesUptoSaid : Prop := expertMixesUptoRow.holds Try.pinned (OpenSpec.upto expertMixesSpec)

/-- 'aviarylaw16.ExpertOnes', WHERE WHAT IT READS IS OF BULK AT MOST 1048576: true; the input reads as it did. -/
def expertOnesUptoRow : OpenClaim := { program := "ytlpmndlefbghoaa", sum := "32cff50ddd1013609bc83bc5cd0b109758f6a3628e48e37a68a0fb1d00dc1c66", func := "aviary/aviarylaw16.ExpertOnes", spec := "expertOnes", unfollowed := true, recurses := true, apart := false, narrowed := true }
def ExpertOnesUptoSaid : Prop := expertOnesUptoRow.holds Try.pinned (OpenSpec.upto expertOnesSpec)

/-- 'aviarylaw16.ExpertFirst', WHERE WHAT IT READS IS OF BULK AT MOST 1048576: true; the input reads as it did. -/
def expertFirstUptoRow : OpenClaim := { program := "ytlpmndlefbghoaa", sum := "32cff50ddd1013609bc83bc5cd0b109758f6a3628e48e37a68a0fb1d00dc1c66", func := "aviary/aviarylaw16.ExpertFirst", spec := "expertFirst", unfollowed := true, recurses := true, apart := false, narrowed := true }
def ExpertFirstUptoSaid : Prop := expertFirstUptoRow.holds Try.pinned (OpenSpec.upto expertFirstSpec)

/-- 'aviarylaw16.ExpertOthers', WHERE WHAT IT READS IS OF BULK AT MOST 1048576: true; the input reads as it did. -/
def expertOthersUptoRow : OpenClaim := { program := "ytlpmndlefbghoaa", sum := "32cff50ddd1013609bc83bc5cd0b109758f6a3628e48e37a68a0fb1d00dc1c66", func := "aviary/aviarylaw16.ExpertOthers", spec := "expertOthers", unfollowed := true, recurses := true, apart := false, narrowed := true }
def ExpertOthersUptoSaid : Prop := expertOthersUptoRow.holds Try.pinned (OpenSpec.upto expertOthersSpec)

/-- 'aviarylaw16.ExpertNought', WHERE WHAT IT READS IS OF BULK AT MOST 1048576: true; the input reads as it did. -/
def expertNoughtUptoRow : OpenClaim := { program := "ytlpmndlefbghoaa", sum := "32cff50ddd1013609bc83bc5cd0b109758f6a3628e48e37a68a0fb1d00dc1c66", func := "aviary/aviarylaw16.ExpertNought", spec := "expertNought", unfollowed := true, recurses := true, apart := false, narrowed := true }
def ExpertNoughtUptoSaid : Prop := expertNoughtUptoRow.holds Try.pinned (OpenSpec.upto expertNoughtSpec)

end Rows
end Go.Proofs.Ytlpmndlefbghoaa
