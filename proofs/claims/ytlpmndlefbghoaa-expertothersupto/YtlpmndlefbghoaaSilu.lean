/- What Sig and Silu give back: the contracts of both sides. -/
import Derived.Test.YtlpmndlefbghoaaRows
import Derived.Test.YtlpmndlefbghoaaSat
import Derived.Test.YtlpmndlefbghoaaSatRef
import Derived.Test.YtlpmndlefbghoaaView
import Derived.Test.YtlpmndlefbghoaaTabs
import Derived.Test.YtlpmndlefbghoaaArith
import Derived.Test.YtlpmndlefbghoaaExp
import Derived.Test.YtlpmndlefbghoaaRefExp
import Derived.WalkKit
import Derived.ProofKit
import Derived.OpenShut
import Derived.Below
import Derived.WalkLawsBesides
import Derived.Deep.QuietTactic
import Derived.BigQuiet
namespace Go.Proofs.Ytlpmndlefbghoaa
open Go.ChangeShapes Go.WideShapes Go.ChangeAt Go.RowKit
set_option linter.unusedVariables false
set_option linter.unusedSimpArgs false

theorem upperSig_call (x : Int) (h0 : 0 ≤ x) (h1 : x ≤ 2147483648) (w : World) :
    Calls Try.prog 69 #[.int .i64 x] w fun e w' => e = .returned (.int .i64 (upZ x)) ∧ Below w.heap.size w w' := by
  have eb := expZ_bounds (-x)
  unfold upZ
  obtain ⟨v, ev⟩ : ∃ v, expZ (-x) = v := ⟨_, rfl⟩
  rw [ev] at eb ⊢
  obtain ⟨e0, e1⟩ := eb
  have wv : (Lit.int .i64 (65536 + v)).wf = true := wf_i64_of (by omega) (by omega)
  go_enter Try.func69, Try.ntmps69
  go_wp2_with (first | (go_at_call 56; refine (exp_call _ _).mono ?_; rintro e w' ⟨rfl, hg⟩) | (go_at_call 57; refine (div_call _ _ (by first | assumption | decide) (by first | assumption | decide) _).mono ?_; rintro e w' ⟨rfl, rfl⟩))
  all_goals go_ret
  all_goals exact ⟨rfl, by assumption⟩

theorem sig_call (x : Int) (w : World) :
    Calls Try.prog 59 #[.int .i64 x] w fun e w' => e = .returned (.int .i64 (sigZ x)) ∧ Below w.heap.size w w' := by
  have cb := clampZ_bounds x
  have b1 := upZ_bounds (-clampZ x)
  unfold sigZ
  obtain ⟨c, ec⟩ : ∃ c, clampZ x = c := ⟨_, rfl⟩
  rw [ec] at cb b1 ⊢
  obtain ⟨c0, c1⟩ := cb
  obtain ⟨b0, b1⟩ := b1
  by_cases k : c < 0
  · rw [if_pos k]
    go_enter Try.func59, Try.ntmps59
    go_wp2_with (first | (go_at_call 48; refine (clamp_call _ _).mono ?_; rintro e w' ⟨rfl, rfl⟩) | (go_at_call 69; refine (upperSig_call _ (by omega) (by omega) _).mono ?_; rintro e w' ⟨rfl, hg⟩))
    all_goals go_ret
    all_goals exact ⟨rfl, by assumption⟩
  · rw [if_neg k]
    go_enter Try.func59, Try.ntmps59
    go_wp2_with (first | (go_at_call 48; refine (clamp_call _ _).mono ?_; rintro e w' ⟨rfl, rfl⟩) | (go_at_call 69; refine (upperSig_call _ (by omega) (by omega) _).mono ?_; rintro e w' ⟨rfl, hg⟩))
    all_goals go_ret
    all_goals exact ⟨rfl, by assumption⟩

theorem silu_call (x : Int) (hx : (Lit.int .i64 x).wf = true) (w : World) :
    Calls Try.prog 44 #[.int .i64 x] w fun e w' => e = .returned (.int .i64 (siluZ x)) ∧ Below w.heap.size w w' := by
  have b := sigZ_bounds x
  have wv : (Lit.int .i64 (sigZ x)).wf = true := wf_i64_of (by omega) (by omega)
  unfold siluZ
  go_enter Try.func44, Try.ntmps44
  go_wp2_with (first | (go_at_call 59; refine (sig_call _ _).mono ?_; rintro e w' ⟨rfl, hg⟩) | (go_at_call 58; refine (mul_call _ _ (by first | assumption | decide) (by first | assumption | decide) _).mono ?_; rintro e w' ⟨rfl, rfl⟩))
  all_goals go_ret
  all_goals exact ⟨rfl, by assumption⟩

theorem refSig_up (x : Int) (h0 : 0 ≤ clampZ x) (w : World) :
    Calls Try.prog 46 #[.int .i64 x] w fun e w' => e = .returned (.int .i64 (upZ (clampZ x))) ∧ Below w.heap.size w w' := by
  have cb := clampZ_bounds x
  have eb := expZ_bounds (-clampZ x)
  unfold upZ
  obtain ⟨c, ec⟩ : ∃ c, clampZ x = c := ⟨_, rfl⟩
  rw [ec] at cb eb h0 ⊢
  obtain ⟨c0, c1⟩ := cb
  obtain ⟨v, ev⟩ : ∃ v, expZ (-c) = v := ⟨_, rfl⟩
  rw [ev] at eb ⊢
  obtain ⟨e0, e1⟩ := eb
  have wv : (Lit.int .i64 (65536 + v)).wf = true := wf_i64_of (by omega) (by omega)
  have wx : (Lit.int .i64 (-c)).wf = true := wf_i64_of (by omega) (by omega)
  go_enter Try.func46, Try.ntmps46
  go_wp2_with (first | (go_at_call 25; refine (refClamp_call _ _).mono ?_; rintro e w' ⟨rfl, rfl⟩) | (go_at_call 42; refine (refExp_call _ (by first | assumption | decide) _).mono ?_; rintro e w' ⟨rfl, hg⟩) | (go_at_call 43; refine (refDiv_call _ _ (by first | assumption | decide) (by first | assumption | decide) _).mono ?_; rintro e w' ⟨rfl, rfl⟩))
  all_goals go_ret
  all_goals exact ⟨rfl, by assumption⟩

theorem refSig_call (x : Int) (w : World) :
    Calls Try.prog 46 #[.int .i64 x] w fun e w' => e = .returned (.int .i64 (sigZ x)) ∧ Below w.heap.size w w' := by
  have cb := clampZ_bounds x
  by_cases k : clampZ x < 0
  · have e : sigZ x = 65536 - upZ (clampZ (-clampZ x)) := by
      unfold sigZ; rw [if_pos k, up_clamped _ cb.1 k]
    rw [e]; clear e
    have ub := upZ_bounds (clampZ (-clampZ x))
    have nn : 0 ≤ clampZ (-clampZ x) := by
      have : 0 ≤ -clampZ x := by omega
      generalize -clampZ x = y at *
      unfold clampZ
      repeat' split
      all_goals omega
    obtain ⟨c, ec⟩ : ∃ c, clampZ x = c := ⟨_, rfl⟩
    rw [ec] at cb k ub nn ⊢
    obtain ⟨c0, c1⟩ := cb
    obtain ⟨u0, u1⟩ := ub
    go_enter Try.func46, Try.ntmps46
    go_wp2_with (first | (go_at_call 25; refine (refClamp_call _ _).mono ?_; rintro e w' ⟨rfl, rfl⟩) | (go_at_call 46; refine (refSig_up _ nn _).mono ?_; rintro e w' ⟨rfl, hg⟩))
    all_goals go_ret
    all_goals exact ⟨rfl, by assumption⟩
  · have e : sigZ x = upZ (clampZ x) := by
      unfold sigZ; rw [if_neg k]
    rw [e]
    exact refSig_up x (by omega) w

theorem refSilu_call (x : Int) (hx : (Lit.int .i64 x).wf = true) (w : World) :
    Calls Try.prog 33 #[.int .i64 x] w fun e w' => e = .returned (.int .i64 (siluZ x)) ∧ Below w.heap.size w w' := by
  have b := sigZ_bounds x
  have wv : (Lit.int .i64 (sigZ x)).wf = true := wf_i64_of (by omega) (by omega)
  unfold siluZ
  go_enter Try.func33, Try.ntmps33
  go_wp2_with (first | (go_at_call 46; refine (refSig_call _ _).mono ?_; rintro e w' ⟨rfl, hg⟩) | (go_at_call 45; refine (refMul_call _ _ (by first | assumption | decide) (by first | assumption | decide) _).mono ?_; rintro e w' ⟨rfl, rfl⟩))
  all_goals go_ret
  all_goals exact ⟨rfl, by assumption⟩

end Go.Proofs.Ytlpmndlefbghoaa
