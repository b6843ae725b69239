/- Size of any configuration, the program's and the document's. -/
import Derived.Test.YtcpnakghndfdpaaRows
import Derived.Test.YtcpnakghndfdpaaCfg
import Derived.Test.YtcpnakghndfdpaaCfgs
import Derived.Test.YtcpnakghndfdpaaCfgRef
import Derived.WalkKit
import Derived.ProofKit
import Derived.OpenShut
import Derived.Below
import Derived.Deep.QuietTactic
import Derived.BigQuiet
import Derived.WalkLawsBesides
import Derived.Deep.RegionWith
namespace Go.Proofs.Ytcpnakghndfdpaa

set_option maxRecDepth 20000

open Go.ChangeShapes Go.WideShapes Go.ChangeAt Go.RowKit

set_option linter.unusedVariables false

theorem mul_bounds {a b A B : Int} (ha : 0 ≤ a) (ha' : a ≤ A) (hb : 0 ≤ b) (hb' : b ≤ B) : 0 ≤ a * b ∧ a * b ≤ A * B :=
  ⟨Int.mul_nonneg ha hb, Int.mul_le_mul ha' hb' hb (by omega)⟩

structure Right (d h l v u x t n : Int) : Prop where
  d0 : 2 ≤ d
  d1 : d ≤ 8
  l0 : 1 ≤ l
  l1 : l ≤ 2
  v0 : 2 ≤ v
  v1 : v ≤ 16
  u0 : 1 ≤ u
  u1 : u ≤ 8
  x0 : 0 ≤ x
  x1 : x ≤ 4
  h0 : 1 ≤ h
  h1 : h ≤ 4
  t0 : 0 ≤ t
  t1 : t ≤ 4
  n0 : 0 ≤ n
  n1 : n ≤ 16

theorem right_of {d h l v u x t n : Int} (ok : okB d h l v u x t n = true) : Right d h l v u x t n := by
  unfold okB headsB expertsB at ok
  simp only [Bool.and_eq_true, decide_eq_true_eq] at ok
  obtain ⟨⟨a1, a2, a3, a4, a5⟩, a6, ⟨a7, a8⟩, ⟨a9, a10⟩, ⟨a11, a12⟩, a13, a14⟩ := ok
  have := heads_few a1 a2 a3 a4 a5
  exact ⟨by omega, by omega, by omega, by omega, by omega, by omega, by omega, by omega, by omega, by omega, by omega, by omega, by omega, by omega, by omega, by omega⟩

end Go.Proofs.Ytcpnakghndfdpaa
