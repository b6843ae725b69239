/- Whether so many members make so many rows of that width: the contract of the call. -/
import Derived.Test.YtlpmndlefbghoaaRows
import Derived.WalkKit
import Derived.ProofKit
import Derived.OpenShut
import Derived.WalkLawsBesides
namespace Go.Proofs.Ytlpmndlefbghoaa
open Go.ChangeShapes Go.WideShapes Go.ChangeAt Go.RowKit
set_option linter.unusedVariables false

theorem fits_call (n d : Nat) (r : Int) (hn : n ≤ 9223372036854775807) (hd : d ≤ 9223372036854775807) (hr : (Lit.int .i64 r).wf = true) (w : World) :
    Calls Try.prog 50 #[.int .i64 n, .int .i64 r, .int .i64 d] w fun e w' => e = .returned (.bool (decide (0 < d ∧ n % d = 0 ∧ ((n / d : Nat) : Int) = r))) ∧ w' = w := by
  by_cases d0 : d = 0
  · subst d0
    have e : decide (0 < 0 ∧ n % 0 = 0 ∧ ((n / 0 : Nat) : Int) = r) = false := by simp
    rw [e]
    go_enter Try.func50, Try.ntmps50
    go_wp2
    go_ret
    exact ⟨rfl, rfl⟩
  · have hd0 : 0 < (d : Int) := by omega
    have q0 : 0 ≤ (n : Int) / (d : Int) := Int.ediv_nonneg (by omega) (by omega)
    have q1 : (n : Int) / (d : Int) ≤ n := Int.ediv_le_self _ (by omega)
    have eq : ((n / d : Nat) : Int) = (n : Int) / (d : Int) := Int.natCast_ediv n d
    have er : ((n % d : Nat) : Int) = (n : Int) % (d : Int) := Int.natCast_emod n d
    obtain ⟨q, eq'⟩ : ∃ q, (n : Int) / (d : Int) = q := ⟨_, rfl⟩
    obtain ⟨m, er'⟩ : ∃ m, (n : Int) % (d : Int) = m := ⟨_, rfl⟩
    have e : decide (0 < d ∧ n % d = 0 ∧ ((n / d : Nat) : Int) = r) = (decide (m = 0) && decide (q = r)) := by
      rw [eq, eq']
      rw [er'] at er
      have h1 : (n % d = 0) = (m = 0) := propext ⟨fun h => by omega, fun h => by omega⟩
      have h2 : (0 < d) = True := eq_true (by omega)
      simp only [h1, h2, true_and, Bool.decide_and]
    rw [e]
    rw [eq'] at q0 q1
    clear e eq er
    by_cases hm : m = 0
    · subst hm
      go_enter Try.func50, Try.ntmps50
      go_wp2
      go_ret
      exact ⟨by rw [show (q == r) = decide (q = r) from rfl]; simp, rfl⟩
    · have hm' : (m == 0) = false := by simp [hm]
      have hm2 : decide (m = 0) = false := by simp [hm]
      rw [hm2]
      go_enter Try.func50, Try.ntmps50
      go_wp2
      go_ret
      exact ⟨rfl, rfl⟩

end Go.Proofs.Ytlpmndlefbghoaa
