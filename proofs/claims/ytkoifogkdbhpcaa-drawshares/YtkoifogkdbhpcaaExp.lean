/- What Exp, Sig and Silu of package curve give back: contracts of the calls. -/
import Derived.Test.YtkoifogkdbhpcaaRows
import Derived.Test.YtkoifogkdbhpcaaSat
import Derived.Test.YtkoifogkdbhpcaaTabs
import Derived.Test.YtkoifogkdbhpcaaArith
import Derived.WalkKit
import Derived.ProofKit
import Derived.OpenShut
import Derived.WalkLawsBesides
import Derived.Below
import Derived.Deep.QuietTactic
import Derived.BigQuiet
namespace Go.Proofs.Ytkoifogkdbhpcaa
set_option maxRecDepth 20000

open Go.ChangeShapes Go.WideShapes Go.ChangeAt Go.RowKit

set_option linter.unusedVariables false

theorem betweenZ_bounds (f : Int) (h0 : 0 ≤ f) (h1 : f < 65536) : 32768 ≤ betweenZ f ∧ betweenZ f ≤ 65536 := by
  have s := powZ_steps (f / 4096) (by omega) (by omega)
  have m := prod_bounds (powZ (f / 4096) - powZ (f / 4096 + 1)) (f % 4096) s.1 s.2.1 (by omega) (by omega)
  unfold betweenZ
  omega

theorem wf_i64_of {n : Int} (h0 : -9223372036854775808 ≤ n) (h1 : n ≤ 9223372036854775807) : (Lit.int .i64 n).wf = true := WalkArith.wf_i64 ⟨h0, h1⟩

theorem exp_call (x : Int) (w : World) :
    Calls Try.prog 36 #[.int .i64 x] w fun e w' => e = .returned (.int .i64 (expZ x)) ∧ Below w.heap.size w w' := by
  have tb := tZ_bounds x
  have cb := clampZ_bounds x
  have m : mulZ (min (clampZ x) 0) 94548 = -tZ x := by unfold tZ; omega
  have fb := betweenZ_bounds (tZ x % 65536) (by omega) (by omega)
  unfold expZ
  obtain ⟨t, et⟩ : ∃ t, tZ x = t := ⟨_, rfl⟩
  obtain ⟨c, ec⟩ : ∃ c, clampZ x = c := ⟨_, rfl⟩
  rw [et] at tb m fb ⊢
  rw [ec] at cb m
  have wc : (Lit.int .i64 c).wf = true := wf_i64_of (by omega) (by omega)
  obtain ⟨t0, t1⟩ := tb
  obtain ⟨c0, c1⟩ := cb
  obtain ⟨f0, f1⟩ := fb
  clear et
  by_cases k : 16 < t / 65536
  · rw [if_pos k]
    rcases Int.lt_trichotomy c 0 with h | h | h
    · have e : min c 0 = c := by omega
      rw [e] at m; clear e
      go_enter Try.func36, Try.ntmps36
      go_wp2_with (first | (go_at_call 37; refine (clamp_call _ _).mono ?_; rintro e w' ⟨rfl, rfl⟩) | (go_at_call 48; refine (mul_call _ _ (by first | assumption | decide) (by decide) _).mono ?_; rintro e w' ⟨rfl, rfl⟩))
      all_goals go_ret
      all_goals exact ⟨rfl, Below.refl _ _⟩
    · have e : min c 0 = 0 := by omega
      rw [e] at m; clear e; subst h
      go_enter Try.func36, Try.ntmps36
      go_wp2_with (first | (go_at_call 37; refine (clamp_call _ _).mono ?_; rintro e w' ⟨rfl, rfl⟩) | (go_at_call 48; refine (mul_call _ _ (by first | assumption | decide) (by decide) _).mono ?_; rintro e w' ⟨rfl, rfl⟩))
      all_goals go_ret
      all_goals exact ⟨rfl, Below.refl _ _⟩
    · have e : min c 0 = 0 := by omega
      rw [e] at m; clear e
      go_enter Try.func36, Try.ntmps36
      go_wp2_with (first | (go_at_call 37; refine (clamp_call _ _).mono ?_; rintro e w' ⟨rfl, rfl⟩) | (go_at_call 48; refine (mul_call _ _ (by first | assumption | decide) (by decide) _).mono ?_; rintro e w' ⟨rfl, rfl⟩))
      all_goals go_ret
      all_goals exact ⟨rfl, Below.refl _ _⟩
  · rw [if_neg k]
    rcases Int.lt_trichotomy c 0 with h | h | h
    · have e : min c 0 = c := by omega
      rw [e] at m; clear e
      go_enter Try.func36, Try.ntmps36
      go_wp2_with (first | (go_at_call 37; refine (clamp_call _ _).mono ?_; rintro e w' ⟨rfl, rfl⟩) | (go_at_call 48; refine (mul_call _ _ (by first | assumption | decide) (by decide) _).mono ?_; rintro e w' ⟨rfl, rfl⟩) | (go_at_call 49; refine (between_call _ (by omega) (by omega) _).mono ?_; rintro e w' ⟨rfl, hg⟩))
      all_goals go_ret
      all_goals exact ⟨rfl, by assumption⟩
    · have e : min c 0 = 0 := by omega
      rw [e] at m; clear e; subst h
      go_enter Try.func36, Try.ntmps36
      go_wp2_with (first | (go_at_call 37; refine (clamp_call _ _).mono ?_; rintro e w' ⟨rfl, rfl⟩) | (go_at_call 48; refine (mul_call _ _ (by first | assumption | decide) (by decide) _).mono ?_; rintro e w' ⟨rfl, rfl⟩) | (go_at_call 49; refine (between_call _ (by omega) (by omega) _).mono ?_; rintro e w' ⟨rfl, hg⟩))
      all_goals go_ret
      all_goals exact ⟨rfl, by assumption⟩
    · have e : min c 0 = 0 := by omega
      rw [e] at m; clear e
      go_enter Try.func36, Try.ntmps36
      go_wp2_with (first | (go_at_call 37; refine (clamp_call _ _).mono ?_; rintro e w' ⟨rfl, rfl⟩) | (go_at_call 48; refine (mul_call _ _ (by first | assumption | decide) (by decide) _).mono ?_; rintro e w' ⟨rfl, rfl⟩) | (go_at_call 49; refine (between_call _ (by omega) (by omega) _).mono ?_; rintro e w' ⟨rfl, hg⟩))
      all_goals go_ret
      all_goals exact ⟨rfl, by assumption⟩

theorem expZ_bounds (x : Int) : 0 ≤ expZ x ∧ expZ x ≤ 65536 := by
  have tb := tZ_bounds x
  have fb := betweenZ_bounds (tZ x % 65536) (by omega) (by omega)
  unfold expZ
  split
  · omega
  · have d := div_bounds (betweenZ (tZ x % 65536)) (tZ x / 65536).toNat (by omega)
    omega

end Go.Proofs.Ytkoifogkdbhpcaa
