/-
  No cell of these rows narrows 'for every input' (looked for: loops, veiled, ifaces, maps, wideKeys, modest, calm, conditions, laid).
  DERIVED. THE GIVEN ROWS OF THIS SEAT. 3 by the template 'for every input the law returns true; each argument reads behind the call as it read before'; 0 by the template 'total and deterministic' (their statements: YtjbocoheognneaaTotals.lean).
  GIVEN WITH THE SEED: the statements are not yours to turn. If you find one false, say at which input.
  Laid BY PROGRAM, IN A SANDBOX (cutbox-rows.mjs): the forced cells as the released guide's own fill.sh prints them over the translation 2256e3efcf1be68a… (all of the seat's roots in one cut). By AI agents, Wed Nov 11 2026. No macro, syntax, notation, axiom, sorry.
-/
import Derived.Test.YtjbocoheognneaaChecked
import GoSem.Claim
import GoSem.ClaimJoined
import GoSem.ClaimMapViews
import Derived.JoinedTies
import Derived.KernelRfl
namespace Go.Proofs.Ytjbocoheognneaa
/- THE CELL 'sum', in the pinned program and in every row, IS THE sha256 OF THE DUMP (.gsa) THAT YtjbocoheognneaaProg.lean LOADS. Nothing in Lean hashes anything: it is a label: what it is worth is what the hold of that sum in a sandbox is worth. -/
noncomputable def Try.pinned : Pinned := { name := "ytjbocoheognneaa", sum := "2256e3efcf1be68aa0081e92ee521d8bb31019ea9ab8c271e06f3ac411037daa", checked := Try.checked }
namespace Rows
def none {H : Type} : Left H := { results := [], args := [] }

/-- 'aviarylaw12.PagedDoes': WHATEVER THE INPUT: true; the input reads as it did. -/
def pagedDoesSpec : ChangeSpec := { name := "pagedDoes", fn := fun _ => fun
  | [d1, d2] => { results := [.lit (.bool true)], args := [d1, d2] }
  | _ => none }
def pagedDoesRow : OpenClaim := { program := "ytjbocoheognneaa", sum := "2256e3efcf1be68aa0081e92ee521d8bb31019ea9ab8c271e06f3ac411037daa", func := "aviary/aviarylaw12.PagedDoes", spec := "pagedDoes", unfollowed := true, recurses := true, apart := false }
def PagedDoesSaid : Prop := pagedDoesRow.holds Try.pinned (OpenSpec.ofChange pagedDoesSpec)

/-- ITS FALSE NEIGHBOUR: 'it returns false'. Refute it at one input. -/
def pagedDoesWrong : ChangeSpec := { name := "pagedDoes", fn := fun _ => fun
  | [d1, d2] => { results := [.lit (.bool false)], args := [d1, d2] }
  | _ => none }
def PagedDoesWrongFalsely : Prop := pagedDoesRow.holds Try.pinned (OpenSpec.ofChange pagedDoesWrong)

/-- 'aviarylaw12.PagedBack': WHATEVER THE INPUT: true; the input reads as it did. -/
def pagedBackSpec : ChangeSpec := { name := "pagedBack", fn := fun _ => fun
  | [d1, d2] => { results := [.lit (.bool true)], args := [d1, d2] }
  | _ => none }
def pagedBackRow : OpenClaim := { program := "ytjbocoheognneaa", sum := "2256e3efcf1be68aa0081e92ee521d8bb31019ea9ab8c271e06f3ac411037daa", func := "aviary/aviarylaw12.PagedBack", spec := "pagedBack", unfollowed := true, recurses := true, apart := false }
def PagedBackSaid : Prop := pagedBackRow.holds Try.pinned (OpenSpec.ofChange pagedBackSpec)

/-- ITS FALSE NEIGHBOUR: 'it returns false'. Refute it at one input. -/
def pagedBackWrong : ChangeSpec := { name := "pagedBack", fn := fun _ => fun
  | [d1, d2] => { results := [.lit (.bool false)], args := [d1, d2] }
  | _ => none }
def PagedBackWrongFalsely : Prop := pagedBackRow.holds Try.pinned (OpenSpec.ofChange pagedBackWrong)

/-- 'aviarylaw12.PagedShared': WHATEVER THE INPUT: true; the input reads as it did. -/
def pagedSharedSpec : ChangeSpec := { name := "pagedShared", fn := fun _ => fun
  | [d] => { results := [.lit (.bool true)], args := [d] }
  | _ => none }
def pagedSharedRow : OpenClaim := { program := "ytjbocoheognneaa", sum := "2256e3efcf1be68aa0081e92ee521d8bb31019ea9ab8c271e06f3ac411037daa", func := "aviary/aviarylaw12.PagedShared", spec := "pagedShared", unfollowed := true, recurses := true, apart := false }
def PagedSharedSaid : Prop := pagedSharedRow.holds Try.pinned (OpenSpec.ofChange pagedSharedSpec)

/-- ITS FALSE NEIGHBOUR: 'it returns false'. Refute it at one input. -/
def pagedSharedWrong : ChangeSpec := { name := "pagedShared", fn := fun _ => fun
  | [d] => { results := [.lit (.bool false)], args := [d] }
  | _ => none }
def PagedSharedWrongFalsely : Prop := pagedSharedRow.holds Try.pinned (OpenSpec.ofChange pagedSharedWrong)

/- THE SECOND FORM. 'bulk': how many values and letters a reading holds, each counted each time it is reached (what is shared counts as often as it is met; a slice's spare places count too). A statement '..UptoSaid' is the law's where the arguments, and the package variables that the reading takes, are together of bulk at most 1048576: NARROWER than '..Said'. Prove '..Said' where nothing that the law and all that it calls make is longer than what came in: it says more and counts as full. Else prove '..UptoSaid'. A law counts once. -/
mutual
def uptoBulk {H : Type} : DataW H → Nat
  | .lit (.string bytes) => bytes.length + 1
  | .lit _ => 1
  | .nil => 1
  | .ptr d => uptoBulk d + 1
  | .slice elems spare => uptoBulkAll elems + uptoBulkAll spare + 1
  | .agg parts => uptoBulkAll parts + 1
  | .iface _ d => uptoBulk d + 1
  | .map entries => uptoBulkEntries entries + 1
  | .held _ => 1
def uptoBulkAll {H : Type} : List (DataW H) → Nat
  | [] => 0
  | d :: r => uptoBulk d + uptoBulkAll r
def uptoBulkEntries {H : Type} : List (Lit × DataW H) → Nat
  | [] => 0
  | x :: r => uptoBulkEntry x + uptoBulkEntries r
def uptoBulkEntry {H : Type} : Lit × DataW H → Nat
  | (.string bytes, d) => bytes.length + uptoBulk d + 1
  | (_, d) => uptoBulk d + 1
 end
def uptoSmall : (H : Type) → List (DataW H) → Bool := fun _ ds => decide (uptoBulkAll ds ≤ 1048576)
def OpenSpec.upto (s : _root_.Go.ChangeSpec) : _root_.Go.OpenSpec := { _root_.Go.OpenSpec.ofChange s with cond := some uptoSmall }

/-- 'aviarylaw12.PagedDoes', WHERE WHAT IT READS IS OF BULK AT MOST 1048576: true; the input reads as it did. -/
def pagedDoesUptoRow : OpenClaim := { program := "ytjbocoheognneaa", sum := "2256e3efcf1be68aa0081e92ee521d8bb31019ea9ab8c271e06f3ac411037daa", func := "aviary/aviarylaw12.PagedDoes", spec := "pagedDoes", unfollowed := true, recurses := true, apart := false, narrowed := true }
def PagedDoesUptoSaid : Prop := pagedDoesUptoRow.holds Try.pinned (OpenSpec.upto pagedDoesSpec)

/-- 'aviarylaw12.PagedBack', WHERE WHAT IT READS IS OF BULK AT MOST 1048576: true; the input reads as it did. -/
def pagedBackUptoRow : OpenClaim := { program := "ytjbocoheognneaa", sum := "2256e3efcf1be68aa0081e92ee521d8bb31019ea9ab8c271e06f3ac411037daa", func := "aviary/aviarylaw12.PagedBack", spec := "pagedBack", unfollowed := true, recurses := true, apart := false, narrowed := true }
def PagedBackUptoSaid : Prop := pagedBackUptoRow.holds Try.pinned (OpenSpec.upto pagedBackSpec)

/-- 'aviarylaw12.PagedShared', WHERE WHAT IT READS IS OF BULK AT MOST 1048576: true; the input reads as it did. -/
def pagedSharedUptoRow : OpenClaim := { program := "ytjbocoheognneaa", sum := "2256e3efcf1be68aa0081e92ee521d8bb31019ea9ab8c271e06f3ac411037daa", func := "aviary/aviarylaw12.PagedShared", spec := "pagedShared", unfollowed := true, recurses := true, apart := false, narrowed := true }
def PagedSharedUptoSaid : Prop := pagedSharedUptoRow.holds Try.pinned (OpenSpec.upto pagedSharedSpec)

end Rows
end Go.Proofs.Ytjbocoheognneaa
