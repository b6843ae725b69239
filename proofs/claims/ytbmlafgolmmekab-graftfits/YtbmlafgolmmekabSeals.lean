/- What Seal and Open give back, the program's and the document's: contracts of the calls. -/
import Derived.Test.YtbmlafgolmmekabRows
import Derived.Test.YtbmlafgolmmekabView
import Derived.Test.YtbmlafgolmmekabOwn
import Derived.Test.YtbmlafgolmmekabTexts
import Derived.Test.YtbmlafgolmmekabSums
import Derived.WalkKit
import Derived.ProofKit
import Derived.OpenShut
import Derived.Below
import Derived.WalkLawsBesides
namespace Go.Proofs.Ytbmlafgolmmekab
open Go.ChangeShapes Go.WideShapes Go.ChangeAt Go.RowKit
set_option linter.unusedVariables false

theorem wf_i64 {x : Int} (h0 : -9223372036854775808 ≤ x) (h1 : x ≤ 9223372036854775807) : (Lit.int .i64 x).wf = true := by
  simpa [Lit.wf, IntKind.min, IntKind.max, IntKind.signed, IntKind.bits] using And.intro h0 h1
theorem wf_sumZ (s : ByteArray) : (Lit.int .i64 (sumZ s)).wf = true := by
  have := sumZ_bounds s
  exact wf_i64 (by omega) (by omega)
theorem below_one {w w' : World} (h : ∃ o, w' = w.alloc o) : Below w.heap.size w w' := by
  obtain ⟨o, rfl⟩ := h
  exact below_new (Below.refl _ _) o

def sealS (s : ByteArray) : ByteArray := s ++ two (sumZ s)

theorem seal_call (s : ByteArray) (w : World) (hs : s.size ≤ 9223372036854775805) :
    Calls Try.prog 19 #[.string s] w fun e w' => e = .returned (.string (sealS s)) ∧ ∃ o, w' = w.alloc o := by
  have c14 := fun w => sum_call s w (by omega)
  have c10 := fun w => two_call (sumZ s) w (wf_sumZ s)
  have F : Hid (sealS s = s ++ two (sumZ s)) := rfl
  have h2 := two_size (sumZ s)
  obtain ⟨S, eS⟩ : ∃ S, sumZ s = S := ⟨_, rfl⟩
  rw [eS] at c14 c10 F h2
  obtain ⟨T, eT⟩ : ∃ T, two S = T := ⟨_, rfl⟩
  rw [eT] at c10 F h2
  clear eS eT
  go_enter Try.func19, Try.ntmps19
  go_wp2_with (first
    | (go_at_call 32; refine (c14 _).mono ?_; rintro e w' ⟨rfl, hw⟩; obtain rfl := hw.symm)
    | (go_at_call 18; refine (c10 _).mono ?_; rintro e w' ⟨rfl, hw⟩))
  go_ret
  exact ⟨by rw [F.out]; rfl, hw⟩

end Go.Proofs.Ytbmlafgolmmekab
