/- The first place that is seen: contracts of both sides. -/
import Derived.Test.YthbddbipmoflfaaRows
import Derived.Test.YthbddbipmoflfaaView
import Derived.WalkKit
import Derived.ProofKit
import Derived.OpenShut
import Derived.Below
import Derived.WalkLawsBesides
import Derived.Deep.QuietTactic
import Derived.BigQuiet
namespace Go.Proofs.Ythbddbipmoflfaa
open Go.ChangeShapes Go.WideShapes Go.ChangeAt Go.RowKit
set_option linter.unusedVariables false

def seeZ (p v : Int) : Int := if v < 1 then 0 else if p < v then 0 else p - v + 1


theorem visible_call (p v : Int) (hp : (Lit.int .i64 p).wf = true) (hv : (Lit.int .i64 v).wf = true) (w : World) :
    Calls Try.prog 15 #[.int .i64 p, .int .i64 v] w fun e w' => e = .returned (.int .i64 (seeZ p v)) ∧ w' = w := by
  have bp := bounds_i64 hp
  have bv := bounds_i64 hv
  obtain ⟨p0, p1⟩ := bp
  obtain ⟨v0, v1⟩ := bv
  unfold seeZ
  by_cases h : v < 1
  · rw [if_pos h]
    go_enter Try.func15, Try.ntmps15
    go_wp2
    go_ret
    exact ⟨rfl, rfl⟩
  · rw [if_neg h]
    by_cases h' : p < v
    · rw [if_pos h']
      go_enter Try.func15, Try.ntmps15
      go_wp2
      go_ret
      exact ⟨rfl, rfl⟩
    · rw [if_neg h']
      go_enter Try.func15, Try.ntmps15
      go_wp2
      go_ret
      exact ⟨rfl, rfl⟩


theorem refVisible_call (p v : Int) (hp : (Lit.int .i64 p).wf = true) (hv : (Lit.int .i64 v).wf = true) (w : World) :
    Calls Try.prog 16 #[.int .i64 p, .int .i64 v] w fun e w' => e = .returned (.int .i64 (seeZ p v)) ∧ w' = w := by
  have bp := bounds_i64 hp
  have bv := bounds_i64 hv
  obtain ⟨p0, p1⟩ := bp
  obtain ⟨v0, v1⟩ := bv
  unfold seeZ
  by_cases h : v < 1
  · rw [if_pos h]
    go_enter Try.func16, Try.ntmps16
    go_wp2
    go_ret
    exact ⟨rfl, rfl⟩
  · rw [if_neg h]
    by_cases h' : p < v
    · rw [if_pos h']
      go_enter Try.func16, Try.ntmps16
      go_wp2
      go_ret
      exact ⟨rfl, rfl⟩
    · rw [if_neg h']
      go_enter Try.func16, Try.ntmps16
      go_wp2
      go_ret
      exact ⟨rfl, rfl⟩

end Go.Proofs.Ythbddbipmoflfaa
