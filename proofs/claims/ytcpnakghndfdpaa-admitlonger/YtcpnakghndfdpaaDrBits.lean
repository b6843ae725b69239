/- What draw.Bits, draw.Heat and the document's give back; that no number of a seed comes twice. -/
import Derived.Test.YtcpnakghndfdpaaRows
import Derived.Test.YtcpnakghndfdpaaKnFixes
import Derived.Laws.FloatArith
import Derived.WalkKit
import Derived.ProofKit
import Derived.OpenShut
import Derived.WalkLawsBesides
import Derived.Laws.Externs
import Derived.Laws.BitsAllLaws
namespace Go.Proofs.Ytcpnakghndfdpaa

open Go.ChangeShapes Go.WideShapes Go.ChangeAt Go.RowKit

set_option linter.unusedVariables false

set_option maxRecDepth 20000

/-! ### Heat -/
def heatZ (x : Nat) : Int := max (fixN x) 0

theorem heat_call (x : Nat) (w : World) :
    Calls Try.prog 43 #[.float .f64 x] w fun e w' => e = .returned (.tuple #[.int .i64 (heatZ x), .int .i64 (fixE x)]) ∧ w' = w := by
  have kf := fun W => fix_call x W
  unfold heatZ
  obtain ⟨F, eF⟩ : ∃ F, fixN x = F := ⟨_, rfl⟩
  obtain ⟨G, eG⟩ : ∃ G, fixE x = G := ⟨_, rfl⟩
  rw [eF, eG] at kf ⊢
  clear eF eG
  go_enter Try.func43, Try.ntmps43
  go_wp2_with (go_at_call 44; refine (kf _).mono ?_; rintro e w' ⟨rfl, h⟩; obtain rfl := h.symm)
  all_goals (go_ret2; refine ⟨ret_pair ?_ rfl, rfl⟩)
  all_goals omega

end Go.Proofs.Ytcpnakghndfdpaa
