/- What the products of a matrix's rows with a row give back: the contract of the document's call; both, where the matrix does not fit. -/
import Derived.Test.YtbmlafgolmmekabRows
import Derived.Test.YtbmlafgolmmekabSat
import Derived.Test.YtbmlafgolmmekabAdds
import Derived.Test.YtbmlafgolmmekabView
import Derived.Test.YtbmlafgolmmekabOwn
import Derived.Test.YtbmlafgolmmekabDots
import Derived.Test.YtbmlafgolmmekabDotsRef
import Derived.Test.YtbmlafgolmmekabFits
import Derived.Test.YtbmlafgolmmekabMats
import Derived.WalkKit
import Derived.ProofKit
import Derived.OpenShut
import Derived.Below
import Derived.WalkLawsBesides
namespace Go.Proofs.Ytbmlafgolmmekab
open Go.ChangeShapes Go.WideShapes Go.ChangeAt Go.RowKit
set_option linter.unusedVariables false

theorem mat_not (a0 : Option Addr) (n c0 : Nat) (r : Int) (a2 : Option Addr) (d c2 : Nat) (w : World) (hm : n ≤ 9223372036854775807) (hm2 : d ≤ 9223372036854775807) (hr : (Lit.int .i64 r).wf = true)
    (h : ¬ (0 < d ∧ n % d = 0 ∧ ((n / d : Nat) : Int) = r)) :
    Calls Try.prog 29 #[.slice a0 n c0, .int .i64 r, .slice a2 d c2] w fun e w' => e = .returned (.tuple #[.slice none 0 0, .int .i64 21]) ∧ w' = w := by
  have kf : ∀ W, Calls Try.prog 41 #[.int .i64 n, .int .i64 r, .int .i64 d] W fun e w' => e = .returned (.bool false) ∧ w' = W := fun W => by
    have := fits_call n d r hm hm2 hr W
    rwa [decide_eq_false h] at this
  clear h
  go_enter Try.func29, Try.ntmps29
  go_wp2_with (go_at_call 41; refine (kf _).mono ?_; rintro e w' ⟨rfl, h⟩; obtain rfl := h.symm)
  go_ret2
  exact ⟨rfl, rfl⟩

end Go.Proofs.Ytbmlafgolmmekab
