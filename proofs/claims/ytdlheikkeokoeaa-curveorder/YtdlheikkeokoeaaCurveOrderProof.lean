/- For every two numbers the Go function CurveOrder returns true (where numbers rise, Exp does not fall and Rsqrt does not rise; Exp is from 0 to 65536) and leaves its arguments as they were; no condition. -/
import Derived.Test.YtdlheikkeokoeaaRows
import Derived.Test.YtdlheikkeokoeaaSat
import Derived.Test.YtdlheikkeokoeaaTabs
import Derived.Test.YtdlheikkeokoeaaArith
import Derived.Test.YtdlheikkeokoeaaExp
import Derived.Test.YtdlheikkeokoeaaRoot
import Derived.Test.YtdlheikkeokoeaaOrder
import Derived.Test.YtdlheikkeokoeaaWorks
import Derived.WalkKit
import Derived.ProofKit
import Derived.OpenShut
import Derived.WalkLawsBesides
namespace Go.Proofs.Ytdlheikkeokoeaa.curveOrder
open Go.ChangeShapes Go.WideShapes Go.ChangeAt Go.RowKit
set_option linter.unusedVariables false
set_option linter.unusedSimpArgs false

theorem own : ownKnob Try.prog.godebug = none := by kernel_rfl


theorem walk (a0 : Int) (a1 : Int) (w0 : (Lit.int .i64 a0).wf = true) (w1 : (Lit.int .i64 a1).wf = true) (w : World) :
    Calls Try.prog 5 #[.int .i64 a0, .int .i64 a1] w fun e w' => e = .returned (.bool true) ∧ Grown w w' := by
  have hg : Grown w w := Grown.refl w
  by_cases h : a1 < a0
  · have e1 := expZ_rises a1 a0 (by omega)
    have e2 := (expZ_bounds a1).1
    have e3 := (expZ_bounds a0).2
    obtain ⟨e4, e5⟩ := rsqrtZ_falls a1 a0 (by omega)
    go_enter Try.func5, Try.ntmps5
    go_wp2_with (first | (go_at_call 21; refine (works_call _).mono ?_; rintro e w' ⟨rfl, hg'⟩; replace hg := grown_trans hg hg'; clear hg') | (go_at_call 9; refine (exp_call _ _).mono ?_; rintro e w' ⟨rfl, hg'⟩; replace hg := grown_trans hg hg'; clear hg') | (go_at_call 11; refine (rsqrt_call _ _).mono ?_; rintro e w' ⟨rfl, rfl⟩))
    all_goals go_ret
    all_goals first | exact ⟨rfl, hg⟩ | (refine ⟨congrArg (fun b => Ending.returned (.bool b)) (decide_eq_true ?_), hg⟩; omega)
  · have e1 := expZ_rises a0 a1 (by omega)
    have e2 := (expZ_bounds a0).1
    have e3 := (expZ_bounds a1).2
    obtain ⟨e4, e5⟩ := rsqrtZ_falls a0 a1 (by omega)
    go_enter Try.func5, Try.ntmps5
    go_wp2_with (first | (go_at_call 21; refine (works_call _).mono ?_; rintro e w' ⟨rfl, hg'⟩; replace hg := grown_trans hg hg'; clear hg') | (go_at_call 9; refine (exp_call _ _).mono ?_; rintro e w' ⟨rfl, hg'⟩; replace hg := grown_trans hg hg'; clear hg') | (go_at_call 11; refine (rsqrt_call _ _).mono ?_; rintro e w' ⟨rfl, rfl⟩))
    all_goals go_ret
    all_goals first | exact ⟨rfl, hg⟩ | (refine ⟨congrArg (fun b => Ending.returned (.bool b)) (decide_eq_true ?_), hg⟩; omega)

set_option maxRecDepth 100000 in
theorem lifted (os : Os) (started : os.Started) (H : Type) (enc : TypeId × Value → H) :
    ReturnsInHanded {} Try.checked os 5 .any (Rows.curveOrderSpec.pre6 enc Try.prog Try.f5 Rows.curveOrderRow.domain false) (Rows.curveOrderSpec.post enc Try.prog Try.f5 false true false false) := by
  refine returnsInHanded_of_change (C := Try.checked) own started (by kernel_rfl) Try.func5
    (ChangeSpec.witness6 (enc := enc) (C := Try.checked) false ⟨#[], #[.int .i64 0, .int .i64 0], []⟩ 8 (by kernel_rfl) (by kernel_rfl) (by kernel_rfl) (by kernel_rfl)) ?_
  intro W base args ds gs before hval0 hW hcnd _
  have hval : ∀ (j : Nat) t v, Try.f5.params[j]? = some t → args[j]? = some v → Value.okWide Try.prog W .any base t v := hval0
  have hW' := hW
  obtain ⟨p, q, hA0, hV, rfl, hfz, hnd⟩ := hW
  have hA : DataW.TrodAll enc Try.prog W 0 (fun _ => true) true Try.f5.params.toList args.toList ds p := hA0
  rw [Try.params5] at hA hval
  obtain ⟨v0, vs0, d0, ds0, p0, q0, hargs, rfl, rfl, h0, r0⟩ := trodAll_cons hA
  obtain ⟨v1, vs1, d1, ds1, p1, q1, rfl, rfl, rfl, h1, r1⟩ := trodAll_cons r0
  obtain ⟨rfl, rfl, rfl⟩ := trodAll_nil r1
  obtain rfl : args = #[v0, v1] := by cases args; simp_all
  obtain ⟨rfl, rfl⟩ := trodVars_none hV
  obtain ⟨a0, rfl, rfl, rfl, w0⟩ := open_int Try.underlying2 (hval 0 2 v0 rfl rfl) h0
  obtain ⟨a1, rfl, rfl, rfl, w1⟩ := open_int Try.underlying2 (hval 1 2 v1 rfl rfl) h1
  clear hA0 hval0
  simp only [List.append_nil] at hW'
  refine (walk a0 a1 w0 w1 W).mono fun e W' ⟨he, hg⟩ => ?_
  subst he
  exact ⟨_, rfl, post_of_same (pa := []) (pv := []) hW' (fun _ _ _ => (trodAll_cons_mk (shut_bool Try.underlying4 _) trodAll_mk0)) (fun sp _ => (trodAll_cons_mk (shut_int Try.underlying2 w0) (trodAll_cons_mk (shut_int Try.underlying2 w1) trodAll_mk0))) (fun _ _ => rfl) rfl
    (hg.frame _) hg.2.1 (ok_one (by kernel_rfl) rfl (okWide_bool_mk Try.underlying4 _))⟩

theorem over : Rows.curveOrderRow.holds Try.pinned (OpenSpec.ofChange Rows.curveOrderSpec) :=
  OpenClaim.holds_of_wide 5 Try.f5 rfl rfl rfl rfl rfl rfl rfl ⟨rfl, rfl, rfl, rfl, rfl⟩ rfl rfl rfl rfl rfl (by kernel_rfl) Try.func5 (by kernel_rfl)
    (of_decide_eq_true (by kernel_rfl)) (by unfold Func.isWrapper; first | (rw [if_pos (by decide +kernel)]; kernel_rfl) | (rw [if_neg (by decide +kernel)]; exact ⟨rfl, rfl⟩))
    (fun os started H enc _ => lifted os started H enc)

theorem proved : Rows.CurveOrderSaid :=
  over
#print axioms proved
end Go.Proofs.Ytdlheikkeokoeaa.curveOrder
