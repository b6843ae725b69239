/-
  No cell of these rows narrows 'for every input' (looked for: loops, veiled, ifaces, maps, wideKeys, modest, calm, conditions, laid).
  DERIVED. THE GIVEN ROWS OF THIS SEAT. 5 by the template 'for every input the law returns true; each argument reads behind the call as it read before'; 0 by the template 'total and deterministic' (their statements: YtkoifogkdbhpcaaTotals.lean).
  GIVEN WITH THE SEED: the statements are not yours to turn. If you find one false, say at which input.
  Laid BY PROGRAM, IN A SANDBOX (cutbox-rows.mjs): the forced cells as the released guide's own fill.sh prints them over the translation 08cb90362bc5063e… (all of the seat's roots in one cut). By AI agents, Wed Nov 11 2026. No macro, syntax, notation, axiom, sorry.
-/
import Derived.Test.YtkoifogkdbhpcaaChecked
import GoSem.Claim
import GoSem.ClaimJoined
import GoSem.ClaimMapViews
import Derived.JoinedTies
import Derived.KernelRfl
namespace Go.Proofs.Ytkoifogkdbhpcaa
/- THE CELL 'sum', in the pinned program and in every row, IS THE sha256 OF THE DUMP (.gsa) THAT YtkoifogkdbhpcaaProg.lean LOADS. Nothing in Lean hashes anything: it is a label: what it is worth is what the hold of that sum in a sandbox is worth. -/
noncomputable def Try.pinned : Pinned := { name := "ytkoifogkdbhpcaa", sum := "08cb90362bc5063ef5706256d481ffeaa4000cc584e5b990ec92c4e89627605d", checked := Try.checked }
namespace Rows
def none {H : Type} : Left H := { results := [], args := [] }

/-- 'aviarylaw18.DrawBits': WHATEVER THE INPUT: true; the input reads as it did. -/
def drawBitsSpec : ChangeSpec := { name := "drawBits", fn := fun _ => fun
  | [d1, d2, d3] => { results := [.lit (.bool true)], args := [d1, d2, d3] }
  | _ => none }
def drawBitsRow : OpenClaim := { program := "ytkoifogkdbhpcaa", sum := "08cb90362bc5063ef5706256d481ffeaa4000cc584e5b990ec92c4e89627605d", func := "aviary/aviarylaw18.DrawBits", spec := "drawBits", inPlace := ["math.RoundToEven"], apart := false }
def DrawBitsSaid : Prop := drawBitsRow.holds Try.pinned (OpenSpec.ofChange drawBitsSpec)

/-- ITS FALSE NEIGHBOUR: 'it returns false'. Refute it at one input. -/
def drawBitsWrong : ChangeSpec := { name := "drawBits", fn := fun _ => fun
  | [d1, d2, d3] => { results := [.lit (.bool false)], args := [d1, d2, d3] }
  | _ => none }
def DrawBitsWrongFalsely : Prop := drawBitsRow.holds Try.pinned (OpenSpec.ofChange drawBitsWrong)

/-- 'aviarylaw18.DrawChooses': WHATEVER THE INPUT: true; the input reads as it did. -/
def drawChoosesSpec : ChangeSpec := { name := "drawChooses", fn := fun _ => fun
  | [d1, d2, d3, d4] => { results := [.lit (.bool true)], args := [d1, d2, d3, d4] }
  | _ => none }
def drawChoosesRow : OpenClaim := { program := "ytkoifogkdbhpcaa", sum := "08cb90362bc5063ef5706256d481ffeaa4000cc584e5b990ec92c4e89627605d", func := "aviary/aviarylaw18.DrawChooses", spec := "drawChooses", unfollowed := true, recurses := true, apart := false }
def DrawChoosesSaid : Prop := drawChoosesRow.holds Try.pinned (OpenSpec.ofChange drawChoosesSpec)

/-- ITS FALSE NEIGHBOUR: 'it returns false'. Refute it at one input. -/
def drawChoosesWrong : ChangeSpec := { name := "drawChooses", fn := fun _ => fun
  | [d1, d2, d3, d4] => { results := [.lit (.bool false)], args := [d1, d2, d3, d4] }
  | _ => none }
def DrawChoosesWrongFalsely : Prop := drawChoosesRow.holds Try.pinned (OpenSpec.ofChange drawChoosesWrong)

/-- 'aviarylaw18.DrawBest': WHATEVER THE INPUT: true; the input reads as it did. -/
def drawBestSpec : ChangeSpec := { name := "drawBest", fn := fun _ => fun
  | [d1, d2, d3, d4] => { results := [.lit (.bool true)], args := [d1, d2, d3, d4] }
  | _ => none }
def drawBestRow : OpenClaim := { program := "ytkoifogkdbhpcaa", sum := "08cb90362bc5063ef5706256d481ffeaa4000cc584e5b990ec92c4e89627605d", func := "aviary/aviarylaw18.DrawBest", spec := "drawBest", inPlace := ["math.Float64frombits", "math.RoundToEven"], unfollowed := true, recurses := true, apart := false }
def DrawBestSaid : Prop := drawBestRow.holds Try.pinned (OpenSpec.ofChange drawBestSpec)

/-- ITS FALSE NEIGHBOUR: 'it returns false'. Refute it at one input. -/
def drawBestWrong : ChangeSpec := { name := "drawBest", fn := fun _ => fun
  | [d1, d2, d3, d4] => { results := [.lit (.bool false)], args := [d1, d2, d3, d4] }
  | _ => none }
def DrawBestWrongFalsely : Prop := drawBestRow.holds Try.pinned (OpenSpec.ofChange drawBestWrong)

/-- 'aviarylaw18.DrawShares': WHATEVER THE INPUT: true; the input reads as it did. -/
def drawSharesSpec : ChangeSpec := { name := "drawShares", fn := fun _ => fun
  | [d1, d2, d3] => { results := [.lit (.bool true)], args := [d1, d2, d3] }
  | _ => none }
def drawSharesRow : OpenClaim := { program := "ytkoifogkdbhpcaa", sum := "08cb90362bc5063ef5706256d481ffeaa4000cc584e5b990ec92c4e89627605d", func := "aviary/aviarylaw18.DrawShares", spec := "drawShares", inPlace := ["math.Float64frombits", "math.RoundToEven"], unfollowed := true, recurses := true, apart := false }
def DrawSharesSaid : Prop := drawSharesRow.holds Try.pinned (OpenSpec.ofChange drawSharesSpec)

/-- ITS FALSE NEIGHBOUR: 'it returns false'. Refute it at one input. -/
def drawSharesWrong : ChangeSpec := { name := "drawShares", fn := fun _ => fun
  | [d1, d2, d3] => { results := [.lit (.bool false)], args := [d1, d2, d3] }
  | _ => none }
def DrawSharesWrongFalsely : Prop := drawSharesRow.holds Try.pinned (OpenSpec.ofChange drawSharesWrong)

/-- 'aviarylaw18.DrawApart': WHATEVER THE INPUT: true; the input reads as it did. -/
def drawApartSpec : ChangeSpec := { name := "drawApart", fn := fun _ => fun
  | [d1, d2, d3, d4] => { results := [.lit (.bool true)], args := [d1, d2, d3, d4] }
  | _ => none }
def drawApartRow : OpenClaim := { program := "ytkoifogkdbhpcaa", sum := "08cb90362bc5063ef5706256d481ffeaa4000cc584e5b990ec92c4e89627605d", func := "aviary/aviarylaw18.DrawApart", spec := "drawApart", inPlace := ["math.Float64frombits", "math.RoundToEven"], unfollowed := true, recurses := true, apart := false }
def DrawApartSaid : Prop := drawApartRow.holds Try.pinned (OpenSpec.ofChange drawApartSpec)

/-- ITS FALSE NEIGHBOUR: 'it returns false'. Refute it at one input. -/
def drawApartWrong : ChangeSpec := { name := "drawApart", fn := fun _ => fun
  | [d1, d2, d3, d4] => { results := [.lit (.bool false)], args := [d1, d2, d3, d4] }
  | _ => none }
def DrawApartWrongFalsely : Prop := drawApartRow.holds Try.pinned (OpenSpec.ofChange drawApartWrong)

/- THE SECOND FORM. 'bulk': how many values and letters a reading holds, each counted each time it is reached (what is shared counts as often as it is met; a slice's spare places count too). A statement '..UptoSaid' is the law's where the arguments, and the package variables that the reading takes, are together of bulk at most 1048576: NARROWER than '..Said'. Prove '..Said' where nothing that the law and all that it calls make is longer than what came in: it says more and counts as full. Else prove '..UptoSaid'. A law counts once. -/
mutual
def uptoBulk {H : Type} : DataW H → Nat
  | .lit (.string bytes) => bytes.length + 1
  | .lit _ => 1
  | .nil => 1
  | .ptr d => uptoBulk d + 1
  | .slice elems spare => uptoBulkAll elems + uptoBulkAll spare + 1
  | .agg parts => uptoBulkAll parts + 1
  | .iface _ d => uptoBulk d + 1
  | .map entries => uptoBulkEntries entries + 1
  | .held _ => 1
def uptoBulkAll {H : Type} : List (DataW H) → Nat
  | [] => 0
  | d :: r => uptoBulk d + uptoBulkAll r
def uptoBulkEntries {H : Type} : List (Lit × DataW H) → Nat
  | [] => 0
  | x :: r => uptoBulkEntry x + uptoBulkEntries r
def uptoBulkEntry {H : Type} : Lit × DataW H → Nat
  | (.string bytes, d) => bytes.length + uptoBulk d + 1
  | (_, d) => uptoBulk d + 1
 end
def uptoSmall : (H : Type) → List (DataW H) → Bool := fun _ ds => decide (uptoBulkAll ds ≤ 1048576)
def OpenSpec.upto (s : _root_.Go.ChangeSpec) : _root_.Go.OpenSpec := { _root_.Go.OpenSpec.ofChange s with cond := some uptoSmall }

/-- 'aviarylaw18.DrawBits', WHERE WHAT IT READS IS OF BULK AT MOST 1048576: true; the input reads as it did. -/
def drawBitsUptoRow : OpenClaim := { program := "ytkoifogkdbhpcaa", sum := "08cb90362bc5063ef5706256d481ffeaa4000cc584e5b990ec92c4e89627605d", func := "aviary/aviarylaw18.DrawBits", spec := "drawBits", inPlace := ["math.RoundToEven"], apart := false, narrowed := true }
def DrawBitsUptoSaid : Prop := drawBitsUptoRow.holds Try.pinned (OpenSpec.upto drawBitsSpec)

/-- 'aviarylaw18.DrawChooses', WHERE WHAT IT READS IS OF BULK AT MOST 1048576: true; the input reads as it did. -/
def drawChoosesUptoRow : OpenClaim := { program := "ytkoifogkdbhpcaa", sum := "08cb90362bc5063ef5706256d481ffeaa4000cc584e5b990ec92c4e89627605d", func := "aviary/aviarylaw18.DrawChooses", spec := "drawChooses", unfollowed := true, recurses := true, apart := false, narrowed := true }
def DrawChoosesUptoSaid : Prop := drawChoosesUptoRow.holds Try.pinned (OpenSpec.upto drawChoosesSpec)

/-- 'aviarylaw18.DrawBest', WHERE WHAT IT READS IS OF BULK AT MOST 1048576: true; the input reads as it did. -/
def drawBestUptoRow : OpenClaim := { program := "ytkoifogkdbhpcaa", sum := "08cb90362bc5063ef5706256d481ffeaa4000cc584e5b990ec92c4e89627605d", func := "aviary/aviarylaw18.DrawBest", spec := "drawBest", inPlace := ["math.Float64frombits", "math.RoundToEven"], unfollowed := true, recurses := true, apart := false, narrowed := true }
def DrawBestUptoSaid : Prop := drawBestUptoRow.holds Try.pinned (OpenSpec.upto drawBestSpec)

/-- 'aviarylaw18.DrawShares', WHERE WHAT IT READS IS OF BULK AT MOST 1048576: true; the input reads as it did. -/
def drawSharesUptoRow : OpenClaim := { program := "ytkoifogkdbhpcaa", sum := "08cb90362bc5063ef5706256d481ffeaa4000cc584e5b990ec92c4e89627605d", func := "aviary/aviarylaw18.DrawShares", spec := "drawShares", inPlace := ["math.Float64frombits", "math.RoundToEven"], unfollowed := true, recurses := true, apart := false, narrowed := true }
def DrawSharesUptoSaid : Prop := drawSharesUptoRow.holds Try.pinned (OpenSpec.upto drawSharesSpec)

/-- 'aviarylaw18.DrawApart', WHERE WHAT IT READS IS OF BULK AT MOST 1048576: true; the input reads as it did. -/
def drawApartUptoRow : OpenClaim := { program := "ytkoifogkdbhpcaa", sum := "08cb90362bc5063ef5706256d481ffeaa4000cc584e5b990ec92c4e89627605d", func := "aviary/aviarylaw18.DrawApart", spec := "drawApart", inPlace := ["math.Float64frombits", "math.RoundToEven"], unfollowed := true, recurses := true, apart := false, narrowed := true }
def DrawApartUptoSaid : Prop := drawApartUptoRow.holds Try.pinned (OpenSpec.upto drawApartSpec)

end Rows
end Go.Proofs.Ytkoifogkdbhpcaa
