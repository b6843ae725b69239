/- Need of weights, of the program and of the document: their contracts. -/
import Derived.Test.YtcpnakghndfdpaaRows
import Derived.Test.YtcpnakghndfdpaaPlain
import Derived.WalkKit
import Derived.ProofKit
import Derived.OpenShut
import Derived.Below
import Derived.Deep.QuietTactic
import Derived.BigQuiet
import Derived.WalkLawsBesides
namespace Go.Proofs.Ytcpnakghndfdpaa
set_option maxRecDepth 20000

open Go.ChangeShapes Go.WideShapes Go.ChangeAt Go.RowKit

set_option linter.unusedVariables false

theorem need_call (z : Int) (hz : z ≤ 9223372036854775807) (hz' : -9223372036854775808 ≤ z) (w : World) : Calls Try.prog 22 #[.int .i64 z] w fun e w' => e = .returned (.int .i64 (needZ z)) ∧ w' = w := by
  by_cases h : z < 1
  · have e : needZ z = 0 := by simp [needZ, h]
    rw [e]
    go_enter Try.func22, Try.ntmps22
    go_wp2
    go_ret
    exact ⟨rfl, rfl⟩
  · have e : needZ z = (z - 1) / 32 + 1 := by simp [needZ, h]
    obtain ⟨Q, eQ⟩ : ∃ Q, (z - 1).tdiv 32 = Q := ⟨_, rfl⟩
    have eQ' : (z - 1) / 32 = Q := by rw [← eQ, Int.tdiv_eq_ediv_of_nonneg (by omega)]
    rw [e, eQ']
    have q0 : 0 ≤ Q := by omega
    have q1 : Q ≤ 288230376151711744 := by omega
    clear e eQ'
    go_enter Try.func22, Try.ntmps22
    go_wp2
    go_ret
    exact ⟨rfl, rfl⟩

theorem refNeed_call (z : Int) (hz : z ≤ 9223372036854775807) (hz' : -9223372036854775808 ≤ z) (w : World) : Calls Try.prog 27 #[.int .i64 z] w fun e w' => e = .returned (.int .i64 (needZ z)) ∧ w' = w := by
  by_cases h : z < 1
  · have e : needZ z = 0 := by simp [needZ, h]
    rw [e]
    go_enter Try.func27, Try.ntmps27
    go_wp2
    go_ret
    exact ⟨rfl, rfl⟩
  · have e : needZ z = (z - 1) / 32 + 1 := by simp [needZ, h]
    obtain ⟨Q, eQ⟩ : ∃ Q, (z - 1).tdiv 32 = Q := ⟨_, rfl⟩
    have eQ' : (z - 1) / 32 = Q := by rw [← eQ, Int.tdiv_eq_ediv_of_nonneg (by omega)]
    rw [e, eQ']
    have q0 : 0 ≤ Q := by omega
    have q1 : Q ≤ 288230376151711744 := by omega
    clear e eQ'
    go_enter Try.func27, Try.ntmps27
    go_wp2
    go_ret
    exact ⟨rfl, rfl⟩

end Go.Proofs.Ytcpnakghndfdpaa
