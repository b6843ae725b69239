/- For every whole number of 64 bits the Go function KnobBack returns true (what Float tells is made the same fixed number by Fix) and leaves its argument as it was; no condition. -/
import Derived.Test.YtcjenapnnldboaaRows
import Derived.Test.YtcjenapnnldboaaFloats
import Derived.Test.YtcjenapnnldboaaExact
import Derived.Test.YtcjenapnnldboaaOps
import Derived.Test.YtcjenapnnldboaaRound
import Derived.Test.YtcjenapnnldboaaCalls
import Derived.Test.YtcjenapnnldboaaFixes
import Derived.Test.YtcjenapnnldboaaWorks
import Derived.WalkKit
import Derived.ProofKit
import Derived.OpenShut
import Derived.WalkLawsBesides
namespace Go.Proofs.Ytcjenapnnldboaa.knobBack
open Go.ChangeShapes Go.WideShapes Go.ChangeAt Go.RowKit
set_option linter.unusedVariables false

theorem own : ownKnob Try.prog.godebug = none := by kernel_rfl

theorem fix_float (n : Int) : fixE (floatB n) = 0 ∧ fixN (floatB n) = clampZ n := by
  obtain ⟨_, f, k⟩ := floatB_spec n
  have nn := fin_not f
  have b := clampZ_bounds n
  have hU := UN_pos
  refine ⟨by unfold fixE; rw [nn]; rfl, ?_⟩
  unfold fixN
  rw [nn, if_neg (by decide)]
  have h1 : clampZ n * (UN : Int) ≤ 2147483647 * (UN : Int) := Int.mul_le_mul_of_nonneg_right b.2 (by omega)
  rw [if_neg (by omega)]
  by_cases k2 : K (floatB n) ≤ -(32768 * (UN : Int))
  · rw [if_pos k2]
    by_cases c : clampZ n ≤ -2147483648
    · omega
    · have h2 : -2147483647 * (UN : Int) ≤ clampZ n * (UN : Int) := Int.mul_le_mul_of_nonneg_right (by omega) (by omega)
      omega
  · rw [if_neg k2, k, rnd_whole]
    omega

theorem walk (a0 : Int) (w0 : (Lit.int .i64 a0).wf = true) (w : World) :
    Calls Try.prog 5 #[.int .i64 a0] w fun e w' => e = .returned (.bool true) ∧ Grown w w' := by
  obtain ⟨k1, k2⟩ := fix_float a0
  have h : a0 < -2147483648 ∨ a0 = -2147483648 ∨ (-2147483648 < a0 ∧ a0 < 2147483647) ∨ a0 = 2147483647 ∨ 2147483647 < a0 := by omega
  rcases h with h | h | h | h | h
  · rw [show clampZ a0 = -2147483648 by unfold clampZ; omega] at k2
    go_enter Try.func5, Try.ntmps5
    go_wp2_with (first | (go_at_call 18; refine (works_call _).mono ?_; rintro e w' ⟨rfl, rfl⟩) | (go_at_call 9; refine (fix_call _ _).mono ?_; rintro e w' ⟨rfl, rfl⟩) | (go_at_call 11; refine (float_call _ _).mono ?_; rintro e w' ⟨rfl, rfl⟩))
    all_goals go_ret
    all_goals exact ⟨rfl, by repeat (first | exact Grown.refl _ | apply Grown.drew | apply Grown.alloc)⟩
  · subst h
    rw [show clampZ (-2147483648) = -2147483648 by decide] at k2
    go_enter Try.func5, Try.ntmps5
    go_wp2_with (first | (go_at_call 18; refine (works_call _).mono ?_; rintro e w' ⟨rfl, rfl⟩) | (go_at_call 9; refine (fix_call _ _).mono ?_; rintro e w' ⟨rfl, rfl⟩) | (go_at_call 11; refine (float_call _ _).mono ?_; rintro e w' ⟨rfl, rfl⟩))
    all_goals go_ret
    all_goals exact ⟨rfl, by repeat (first | exact Grown.refl _ | apply Grown.drew | apply Grown.alloc)⟩
  · rw [show clampZ a0 = a0 by unfold clampZ; omega] at k2
    go_enter Try.func5, Try.ntmps5
    go_wp2_with (first | (go_at_call 18; refine (works_call _).mono ?_; rintro e w' ⟨rfl, rfl⟩) | (go_at_call 9; refine (fix_call _ _).mono ?_; rintro e w' ⟨rfl, rfl⟩) | (go_at_call 11; refine (float_call _ _).mono ?_; rintro e w' ⟨rfl, rfl⟩))
    all_goals go_ret
    all_goals exact ⟨rfl, by repeat (first | exact Grown.refl _ | apply Grown.drew | apply Grown.alloc)⟩
  · subst h
    rw [show clampZ 2147483647 = 2147483647 by decide] at k2
    go_enter Try.func5, Try.ntmps5
    go_wp2_with (first | (go_at_call 18; refine (works_call _).mono ?_; rintro e w' ⟨rfl, rfl⟩) | (go_at_call 9; refine (fix_call _ _).mono ?_; rintro e w' ⟨rfl, rfl⟩) | (go_at_call 11; refine (float_call _ _).mono ?_; rintro e w' ⟨rfl, rfl⟩))
    all_goals go_ret
    all_goals exact ⟨rfl, by repeat (first | exact Grown.refl _ | apply Grown.drew | apply Grown.alloc)⟩
  · rw [show clampZ a0 = 2147483647 by unfold clampZ; omega] at k2
    go_enter Try.func5, Try.ntmps5
    go_wp2_with (first | (go_at_call 18; refine (works_call _).mono ?_; rintro e w' ⟨rfl, rfl⟩) | (go_at_call 9; refine (fix_call _ _).mono ?_; rintro e w' ⟨rfl, rfl⟩) | (go_at_call 11; refine (float_call _ _).mono ?_; rintro e w' ⟨rfl, rfl⟩))
    all_goals go_ret
    all_goals exact ⟨rfl, by repeat (first | exact Grown.refl _ | apply Grown.drew | apply Grown.alloc)⟩

set_option maxRecDepth 100000 in
theorem lifted (os : Os) (started : os.Started) (H : Type) (enc : TypeId × Value → H) :
    ReturnsInHanded {} Try.checked os 5 .any (Rows.knobBackSpec.pre6 enc Try.prog Try.f5 Rows.knobBackRow.domain false) (Rows.knobBackSpec.post enc Try.prog Try.f5 false true false false) := by
  refine returnsInHanded_of_change (C := Try.checked) own started (by kernel_rfl) Try.func5
    (ChangeSpec.witness6 (enc := enc) (C := Try.checked) false ⟨#[], #[.int .i64 0], []⟩ 8 (by kernel_rfl) (by kernel_rfl) (by kernel_rfl) (by kernel_rfl)) ?_
  intro W base args ds gs before hval0 hW hcnd _
  have hval : ∀ (j : Nat) t v, Try.f5.params[j]? = some t → args[j]? = some v → Value.okWide Try.prog W .any base t v := hval0
  have hW' := hW
  obtain ⟨p, q, hA0, hV, rfl, hfz, hnd⟩ := hW
  have hA : DataW.TrodAll enc Try.prog W 0 (fun _ => true) true Try.f5.params.toList args.toList ds p := hA0
  rw [Try.params5] at hA hval
  obtain ⟨v0, vs0, d0, ds0, p0, q0, hargs, rfl, rfl, h0, r0⟩ := trodAll_cons hA
  obtain ⟨rfl, rfl, rfl⟩ := trodAll_nil r0
  obtain rfl : args = #[v0] := by cases args; simp_all
  obtain ⟨rfl, rfl⟩ := trodVars_none hV
  obtain ⟨a0, rfl, rfl, rfl, w0⟩ := open_int Try.underlying2 (hval 0 2 v0 rfl rfl) h0
  clear hA0 hval0
  simp only [List.append_nil] at hW'
  refine (walk a0 w0 W).mono fun e W' ⟨he, hg⟩ => ?_
  subst he
  exact ⟨_, rfl, post_of_same (pa := []) (pv := []) hW' (fun _ _ _ => (trodAll_cons_mk (shut_bool Try.underlying4 _) trodAll_mk0)) (fun sp _ => (trodAll_cons_mk (shut_int Try.underlying2 w0) trodAll_mk0)) (fun _ _ => rfl) rfl
    (hg.frame _) hg.2.1 (ok_one (by kernel_rfl) rfl (okWide_bool_mk Try.underlying4 _))⟩

theorem over : Rows.knobBackRow.holds Try.pinned (OpenSpec.ofChange Rows.knobBackSpec) :=
  OpenClaim.holds_of_wide 5 Try.f5 rfl rfl rfl rfl rfl rfl rfl ⟨rfl, rfl, rfl, rfl, rfl⟩ rfl rfl rfl rfl rfl (by kernel_rfl) Try.func5 (by kernel_rfl)
    (of_decide_eq_true (by kernel_rfl)) (by unfold Func.isWrapper; first | (rw [if_pos (by decide +kernel)]; kernel_rfl) | (rw [if_neg (by decide +kernel)]; exact ⟨rfl, rfl⟩))
    (fun os started H enc _ => lifted os started H enc)

theorem proved : Rows.KnobBackSaid :=
  over
#print axioms proved
end Go.Proofs.Ytcjenapnnldboaa.knobBack
