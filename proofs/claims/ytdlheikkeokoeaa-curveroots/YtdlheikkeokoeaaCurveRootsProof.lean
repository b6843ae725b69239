/- For every number the Go function CurveRoots returns true (Rsqrt is the greatest number whose square, times the number, is at most 2^48) and leaves its argument as it was; no condition. -/
import Derived.Test.YtdlheikkeokoeaaRows
import Derived.Test.YtdlheikkeokoeaaSat
import Derived.Test.YtdlheikkeokoeaaTabs
import Derived.Test.YtdlheikkeokoeaaArith
import Derived.Test.YtdlheikkeokoeaaExp
import Derived.Test.YtdlheikkeokoeaaRoot
import Derived.Test.YtdlheikkeokoeaaOrder
import Derived.Test.YtdlheikkeokoeaaWorks
import Derived.WalkKit
import Derived.ProofKit
import Derived.OpenShut
import Derived.WalkLawsBesides
namespace Go.Proofs.Ytdlheikkeokoeaa.curveRoots
open Go.ChangeShapes Go.WideShapes Go.ChangeAt Go.RowKit
set_option linter.unusedVariables false
set_option linter.unusedSimpArgs false

theorem own : ownKnob Try.prog.godebug = none := by kernel_rfl

theorem root_of (c : Int) (h0 : 1 ≤ c) (h1 : c ≤ 2147483647) : 0 ≤ rsqrtZ c ∧ rsqrtZ c ≤ 16777216 ∧ 0 ≤ rsqrtZ c * rsqrtZ c ∧ rsqrtZ c * rsqrtZ c ≤ 281474976710656 / c ∧ 281474976710656 / c < (rsqrtZ c + 1) * (rsqrtZ c + 1) ∧ (rsqrtZ c + 1) * (rsqrtZ c + 1) ≤ 1125899906842624 ∧ 281474976710656 / c ≤ 281474976710656 := by
  have e1 : clampZ c = c := by unfold clampZ; rw [if_neg (by omega), if_neg (by omega)]
  unfold rsqrtZ
  rw [e1, if_neg (by omega)]
  obtain ⟨q0, q1⟩ := quot_bounds c h0
  obtain ⟨s0, s1, s2⟩ := rootZ_spec _ q0 q1
  have s3 := rootZ_most _ q0 q1
  exact ⟨s0, s3, Int.mul_nonneg s0 s0, s1, s2, (sq_bounds _ (by omega) (by omega)).2, q1⟩


theorem walk (a0 : Int) (w0 : (Lit.int .i64 a0).wf = true) (w : World) :
    Calls Try.prog 7 #[.int .i64 a0] w fun e w' => e = .returned (.bool true) ∧ Grown w w' := by
  have hg : Grown w w := Grown.refl w
  rcases (show a0 < 1 ∨ a0 = 1 ∨ (1 < a0 ∧ a0 < 2147483647) ∨ a0 = 2147483647 ∨ 2147483647 < a0 by omega) with h | h | ⟨h, h'⟩ | h | h
  · have k : rsqrtZ 1 = 16777216 := by decide +kernel
    go_enter Try.func7, Try.ntmps7
    go_wp2_with (first | (go_at_call 21; refine (works_call _).mono ?_; rintro e w' ⟨rfl, hg'⟩; replace hg := grown_trans hg hg'; clear hg') | (go_at_call 11; refine (rsqrt_call _ _).mono ?_; rintro e w' ⟨rfl, rfl⟩))
    all_goals go_ret
    all_goals first | exact ⟨rfl, hg⟩ | (refine ⟨congrArg (fun b => Ending.returned (.bool b)) (decide_eq_true ?_), hg⟩; omega)
  · subst h
    have k : rsqrtZ 1 = 16777216 := by decide +kernel
    go_enter Try.func7, Try.ntmps7
    go_wp2_with (first | (go_at_call 21; refine (works_call _).mono ?_; rintro e w' ⟨rfl, hg'⟩; replace hg := grown_trans hg hg'; clear hg') | (go_at_call 11; refine (rsqrt_call _ _).mono ?_; rintro e w' ⟨rfl, rfl⟩))
    all_goals go_ret
    all_goals first | exact ⟨rfl, hg⟩ | (refine ⟨congrArg (fun b => Ending.returned (.bool b)) (decide_eq_true ?_), hg⟩; omega)
  · obtain ⟨s0, s1, s2, s3, s4, s5, s6⟩ := root_of a0 (by omega) (by omega)
    obtain ⟨R, eR⟩ : ∃ R, rsqrtZ a0 = R := ⟨_, rfl⟩
    rw [eR] at s0 s1 s2 s3 s4 s5
    go_enter Try.func7, Try.ntmps7
    go_wp2_with (first | (go_at_call 21; refine (works_call _).mono ?_; rintro e w' ⟨rfl, hg'⟩; replace hg := grown_trans hg hg'; clear hg') | (go_at_call 11; refine (rsqrt_call _ _).mono ?_; rintro e w' ⟨rfl, rfl⟩))
    all_goals go_ret
    all_goals first | exact ⟨rfl, hg⟩ | (refine ⟨congrArg (fun b => Ending.returned (.bool b)) (decide_eq_true ?_), hg⟩; omega)
  · subst h
    have k : rsqrtZ 2147483647 = 362 := by decide +kernel
    go_enter Try.func7, Try.ntmps7
    go_wp2_with (first | (go_at_call 21; refine (works_call _).mono ?_; rintro e w' ⟨rfl, hg'⟩; replace hg := grown_trans hg hg'; clear hg') | (go_at_call 11; refine (rsqrt_call _ _).mono ?_; rintro e w' ⟨rfl, rfl⟩))
    all_goals go_ret
    all_goals first | exact ⟨rfl, hg⟩ | (refine ⟨congrArg (fun b => Ending.returned (.bool b)) (decide_eq_true ?_), hg⟩; omega)
  · have k : rsqrtZ 2147483647 = 362 := by decide +kernel
    go_enter Try.func7, Try.ntmps7
    go_wp2_with (first | (go_at_call 21; refine (works_call _).mono ?_; rintro e w' ⟨rfl, hg'⟩; replace hg := grown_trans hg hg'; clear hg') | (go_at_call 11; refine (rsqrt_call _ _).mono ?_; rintro e w' ⟨rfl, rfl⟩))
    all_goals go_ret
    all_goals first | exact ⟨rfl, hg⟩ | (refine ⟨congrArg (fun b => Ending.returned (.bool b)) (decide_eq_true ?_), hg⟩; omega)

set_option maxRecDepth 100000 in
theorem lifted (os : Os) (started : os.Started) (H : Type) (enc : TypeId × Value → H) :
    ReturnsInHanded {} Try.checked os 7 .any (Rows.curveRootsSpec.pre6 enc Try.prog Try.f7 Rows.curveRootsRow.domain false) (Rows.curveRootsSpec.post enc Try.prog Try.f7 false true false false) := by
  refine returnsInHanded_of_change (C := Try.checked) own started (by kernel_rfl) Try.func7
    (ChangeSpec.witness6 (enc := enc) (C := Try.checked) false ⟨#[], #[.int .i64 0], []⟩ 8 (by kernel_rfl) (by kernel_rfl) (by kernel_rfl) (by kernel_rfl)) ?_
  intro W base args ds gs before hval0 hW hcnd _
  have hval : ∀ (j : Nat) t v, Try.f7.params[j]? = some t → args[j]? = some v → Value.okWide Try.prog W .any base t v := hval0
  have hW' := hW
  obtain ⟨p, q, hA0, hV, rfl, hfz, hnd⟩ := hW
  have hA : DataW.TrodAll enc Try.prog W 0 (fun _ => true) true Try.f7.params.toList args.toList ds p := hA0
  rw [Try.params7] at hA hval
  obtain ⟨v0, vs0, d0, ds0, p0, q0, hargs, rfl, rfl, h0, r0⟩ := trodAll_cons hA
  obtain ⟨rfl, rfl, rfl⟩ := trodAll_nil r0
  obtain rfl : args = #[v0] := by cases args; simp_all
  obtain ⟨rfl, rfl⟩ := trodVars_none hV
  obtain ⟨a0, rfl, rfl, rfl, w0⟩ := open_int Try.underlying2 (hval 0 2 v0 rfl rfl) h0
  clear hA0 hval0
  simp only [List.append_nil] at hW'
  refine (walk a0 w0 W).mono fun e W' ⟨he, hg⟩ => ?_
  subst he
  exact ⟨_, rfl, post_of_same (pa := []) (pv := []) hW' (fun _ _ _ => (trodAll_cons_mk (shut_bool Try.underlying4 _) trodAll_mk0)) (fun sp _ => (trodAll_cons_mk (shut_int Try.underlying2 w0) trodAll_mk0)) (fun _ _ => rfl) rfl
    (hg.frame _) hg.2.1 (ok_one (by kernel_rfl) rfl (okWide_bool_mk Try.underlying4 _))⟩

theorem over : Rows.curveRootsRow.holds Try.pinned (OpenSpec.ofChange Rows.curveRootsSpec) :=
  OpenClaim.holds_of_wide 7 Try.f7 rfl rfl rfl rfl rfl rfl rfl ⟨rfl, rfl, rfl, rfl, rfl⟩ rfl rfl rfl rfl rfl (by kernel_rfl) Try.func7 (by kernel_rfl)
    (of_decide_eq_true (by kernel_rfl)) (by unfold Func.isWrapper; first | (rw [if_pos (by decide +kernel)]; kernel_rfl) | (rw [if_neg (by decide +kernel)]; exact ⟨rfl, rfl⟩))
    (fun os started H enc _ => lifted os started H enc)

theorem proved : Rows.CurveRootsSaid :=
  over
#print axioms proved
end Go.Proofs.Ytdlheikkeokoeaa.curveRoots
