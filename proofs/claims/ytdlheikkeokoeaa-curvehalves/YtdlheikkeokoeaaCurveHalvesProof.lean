/- For every number the Go function CurveHalves returns true (Sig of a number, and of it with its sign turned, are 65536 together, neither below 0) and leaves its argument as it was; no condition. -/
import Derived.Test.YtdlheikkeokoeaaRows
import Derived.Test.YtdlheikkeokoeaaSat
import Derived.Test.YtdlheikkeokoeaaTabs
import Derived.Test.YtdlheikkeokoeaaArith
import Derived.Test.YtdlheikkeokoeaaExp
import Derived.Test.YtdlheikkeokoeaaRoot
import Derived.Test.YtdlheikkeokoeaaOrder
import Derived.Test.YtdlheikkeokoeaaWorks
import Derived.WalkKit
import Derived.ProofKit
import Derived.OpenShut
import Derived.WalkLawsBesides
namespace Go.Proofs.Ytdlheikkeokoeaa.curveHalves
open Go.ChangeShapes Go.WideShapes Go.ChangeAt Go.RowKit
set_option linter.unusedVariables false
set_option linter.unusedSimpArgs false

theorem own : ownKnob Try.prog.godebug = none := by kernel_rfl

theorem sig_halves (c : Int) (h0 : -2147483647 ≤ c) (h1 : c ≤ 2147483647) : sigZ c + sigZ (-c) = 65536 ∧ 0 ≤ sigZ c ∧ 0 ≤ sigZ (-c) ∧ (c < 0 ∨ 32768 ≤ sigZ c) := by
  have e1 : clampZ c = c := by unfold clampZ; rw [if_neg (by omega), if_neg (by omega)]
  have e2 : clampZ (-c) = -c := by unfold clampZ; rw [if_neg (by omega), if_neg (by omega)]
  have u1 := upZ_bounds c
  have u2 := upZ_bounds (-c)
  unfold sigZ
  rw [e1, e2]
  rcases Int.lt_trichotomy c 0 with h | h | h
  · rw [if_pos h, if_neg (by omega)]; omega
  · subst h; decide +kernel
  · rw [if_neg (by omega), if_pos (by omega), Int.neg_neg]; omega


theorem walk (a0 : Int) (w0 : (Lit.int .i64 a0).wf = true) (w : World) :
    Calls Try.prog 6 #[.int .i64 a0] w fun e w' => e = .returned (.bool true) ∧ Grown w w' := by
  have hg : Grown w w := Grown.refl w
  rcases (show a0 < -2147483647 ∨ a0 = -2147483647 ∨ (-2147483647 < a0 ∧ a0 < 2147483647) ∨ a0 = 2147483647 ∨ 2147483647 < a0 by omega) with h | h | ⟨h, h'⟩ | h | h
  · obtain ⟨s1, s2, s3, s4⟩ := sig_halves (-2147483647) (by omega) (by omega)
    have b1 := (sigZ_bounds (-2147483647)).2
    have b2 := (sigZ_bounds 2147483647).2
    obtain ⟨A, eA⟩ : ∃ A, sigZ (-2147483647) = A := ⟨_, rfl⟩
    obtain ⟨B, eB⟩ : ∃ B, sigZ 2147483647 = B := ⟨_, rfl⟩
    have s1' : sigZ (-2147483647) + sigZ 2147483647 = 65536 := s1
    have s3' : 0 ≤ sigZ 2147483647 := s3
    rw [eA] at s2 s4 b1
    rw [eB] at b2 s3'
    rw [eA, eB] at s1'
    clear s1 s3
    have k1 : (A + B == 65536) = true := by simp only [beq_iff_eq]; exact s1'
    clear s1'
    simp only [Int.reduceLT, false_or, true_or, Int.reduceNeg] at s4
    go_enter Try.func6, Try.ntmps6
    go_wp2_with (first | (go_at_call 21; refine (works_call _).mono ?_; rintro e w' ⟨rfl, hg'⟩; replace hg := grown_trans hg hg'; clear hg') | (go_at_call 13; refine (sig_call _ _).mono ?_; rintro e w' ⟨rfl, hg'⟩; replace hg := grown_trans hg hg'; clear hg'))
    all_goals go_ret
    all_goals first | exact ⟨rfl, hg⟩ | (refine ⟨congrArg (fun b => Ending.returned (.bool b)) (decide_eq_true ?_), hg⟩; omega)
  · subst h
    obtain ⟨s1, s2, s3, s4⟩ := sig_halves (-2147483647) (by omega) (by omega)
    have b1 := (sigZ_bounds (-2147483647)).2
    have b2 := (sigZ_bounds 2147483647).2
    obtain ⟨A, eA⟩ : ∃ A, sigZ (-2147483647) = A := ⟨_, rfl⟩
    obtain ⟨B, eB⟩ : ∃ B, sigZ 2147483647 = B := ⟨_, rfl⟩
    have s1' : sigZ (-2147483647) + sigZ 2147483647 = 65536 := s1
    have s3' : 0 ≤ sigZ 2147483647 := s3
    rw [eA] at s2 s4 b1
    rw [eB] at b2 s3'
    rw [eA, eB] at s1'
    clear s1 s3
    have k1 : (A + B == 65536) = true := by simp only [beq_iff_eq]; exact s1'
    clear s1'
    simp only [Int.reduceLT, false_or, true_or, Int.reduceNeg] at s4
    go_enter Try.func6, Try.ntmps6
    go_wp2_with (first | (go_at_call 21; refine (works_call _).mono ?_; rintro e w' ⟨rfl, hg'⟩; replace hg := grown_trans hg hg'; clear hg') | (go_at_call 13; refine (sig_call _ _).mono ?_; rintro e w' ⟨rfl, hg'⟩; replace hg := grown_trans hg hg'; clear hg'))
    all_goals go_ret
    all_goals first | exact ⟨rfl, hg⟩ | (refine ⟨congrArg (fun b => Ending.returned (.bool b)) (decide_eq_true ?_), hg⟩; omega)
  · obtain ⟨s1, s2, s3, s4⟩ := sig_halves a0 (by omega) (by omega)
    have b1 := (sigZ_bounds a0).2
    have b2 := (sigZ_bounds (-a0)).2
    obtain ⟨A, eA⟩ : ∃ A, sigZ a0 = A := ⟨_, rfl⟩
    obtain ⟨B, eB⟩ : ∃ B, sigZ (-a0) = B := ⟨_, rfl⟩
    have s1' : sigZ a0 + sigZ (-a0) = 65536 := s1
    have s3' : 0 ≤ sigZ (-a0) := s3
    rw [eA] at s2 s4 b1
    rw [eB] at b2 s3'
    rw [eA, eB] at s1'
    clear s1 s3
    have k1 : (A + B == 65536) = true := by simp only [beq_iff_eq]; exact s1'
    clear s1'
    have k2 : (decide (a0 < 0) || decide (32768 ≤ A)) = true := by simpa using s4
    clear s4
    go_enter Try.func6, Try.ntmps6
    go_wp2_with (first | (go_at_call 21; refine (works_call _).mono ?_; rintro e w' ⟨rfl, hg'⟩; replace hg := grown_trans hg hg'; clear hg') | (go_at_call 13; refine (sig_call _ _).mono ?_; rintro e w' ⟨rfl, hg'⟩; replace hg := grown_trans hg hg'; clear hg'))
    all_goals go_ret
    all_goals first | exact ⟨congrArg (fun b => Ending.returned (.bool b)) k2, hg⟩ | exact ⟨rfl, hg⟩ | (refine ⟨congrArg (fun b => Ending.returned (.bool b)) (decide_eq_true ?_), hg⟩; omega)
  · subst h
    obtain ⟨s1, s2, s3, s4⟩ := sig_halves (2147483647) (by omega) (by omega)
    have b1 := (sigZ_bounds (2147483647)).2
    have b2 := (sigZ_bounds (-2147483647)).2
    obtain ⟨A, eA⟩ : ∃ A, sigZ (2147483647) = A := ⟨_, rfl⟩
    obtain ⟨B, eB⟩ : ∃ B, sigZ (-2147483647) = B := ⟨_, rfl⟩
    have s1' : sigZ (2147483647) + sigZ (-2147483647) = 65536 := s1
    have s3' : 0 ≤ sigZ (-2147483647) := s3
    rw [eA] at s2 s4 b1
    rw [eB] at b2 s3'
    rw [eA, eB] at s1'
    clear s1 s3
    have k1 : (A + B == 65536) = true := by simp only [beq_iff_eq]; exact s1'
    clear s1'
    simp only [Int.reduceLT, false_or, true_or, Int.reduceNeg] at s4
    go_enter Try.func6, Try.ntmps6
    go_wp2_with (first | (go_at_call 21; refine (works_call _).mono ?_; rintro e w' ⟨rfl, hg'⟩; replace hg := grown_trans hg hg'; clear hg') | (go_at_call 13; refine (sig_call _ _).mono ?_; rintro e w' ⟨rfl, hg'⟩; replace hg := grown_trans hg hg'; clear hg'))
    all_goals go_ret
    all_goals first | exact ⟨rfl, hg⟩ | (refine ⟨congrArg (fun b => Ending.returned (.bool b)) (decide_eq_true ?_), hg⟩; omega)
  · obtain ⟨s1, s2, s3, s4⟩ := sig_halves (2147483647) (by omega) (by omega)
    have b1 := (sigZ_bounds (2147483647)).2
    have b2 := (sigZ_bounds (-2147483647)).2
    obtain ⟨A, eA⟩ : ∃ A, sigZ (2147483647) = A := ⟨_, rfl⟩
    obtain ⟨B, eB⟩ : ∃ B, sigZ (-2147483647) = B := ⟨_, rfl⟩
    have s1' : sigZ (2147483647) + sigZ (-2147483647) = 65536 := s1
    have s3' : 0 ≤ sigZ (-2147483647) := s3
    rw [eA] at s2 s4 b1
    rw [eB] at b2 s3'
    rw [eA, eB] at s1'
    clear s1 s3
    have k1 : (A + B == 65536) = true := by simp only [beq_iff_eq]; exact s1'
    clear s1'
    simp only [Int.reduceLT, false_or, true_or, Int.reduceNeg] at s4
    go_enter Try.func6, Try.ntmps6
    go_wp2_with (first | (go_at_call 21; refine (works_call _).mono ?_; rintro e w' ⟨rfl, hg'⟩; replace hg := grown_trans hg hg'; clear hg') | (go_at_call 13; refine (sig_call _ _).mono ?_; rintro e w' ⟨rfl, hg'⟩; replace hg := grown_trans hg hg'; clear hg'))
    all_goals go_ret
    all_goals first | exact ⟨rfl, hg⟩ | (refine ⟨congrArg (fun b => Ending.returned (.bool b)) (decide_eq_true ?_), hg⟩; omega)

set_option maxRecDepth 100000 in
theorem lifted (os : Os) (started : os.Started) (H : Type) (enc : TypeId × Value → H) :
    ReturnsInHanded {} Try.checked os 6 .any (Rows.curveHalvesSpec.pre6 enc Try.prog Try.f6 Rows.curveHalvesRow.domain false) (Rows.curveHalvesSpec.post enc Try.prog Try.f6 false true false false) := by
  refine returnsInHanded_of_change (C := Try.checked) own started (by kernel_rfl) Try.func6
    (ChangeSpec.witness6 (enc := enc) (C := Try.checked) false ⟨#[], #[.int .i64 0], []⟩ 8 (by kernel_rfl) (by kernel_rfl) (by kernel_rfl) (by kernel_rfl)) ?_
  intro W base args ds gs before hval0 hW hcnd _
  have hval : ∀ (j : Nat) t v, Try.f6.params[j]? = some t → args[j]? = some v → Value.okWide Try.prog W .any base t v := hval0
  have hW' := hW
  obtain ⟨p, q, hA0, hV, rfl, hfz, hnd⟩ := hW
  have hA : DataW.TrodAll enc Try.prog W 0 (fun _ => true) true Try.f6.params.toList args.toList ds p := hA0
  rw [Try.params6] at hA hval
  obtain ⟨v0, vs0, d0, ds0, p0, q0, hargs, rfl, rfl, h0, r0⟩ := trodAll_cons hA
  obtain ⟨rfl, rfl, rfl⟩ := trodAll_nil r0
  obtain rfl : args = #[v0] := by cases args; simp_all
  obtain ⟨rfl, rfl⟩ := trodVars_none hV
  obtain ⟨a0, rfl, rfl, rfl, w0⟩ := open_int Try.underlying2 (hval 0 2 v0 rfl rfl) h0
  clear hA0 hval0
  simp only [List.append_nil] at hW'
  refine (walk a0 w0 W).mono fun e W' ⟨he, hg⟩ => ?_
  subst he
  exact ⟨_, rfl, post_of_same (pa := []) (pv := []) hW' (fun _ _ _ => (trodAll_cons_mk (shut_bool Try.underlying4 _) trodAll_mk0)) (fun sp _ => (trodAll_cons_mk (shut_int Try.underlying2 w0) trodAll_mk0)) (fun _ _ => rfl) rfl
    (hg.frame _) hg.2.1 (ok_one (by kernel_rfl) rfl (okWide_bool_mk Try.underlying4 _))⟩

theorem over : Rows.curveHalvesRow.holds Try.pinned (OpenSpec.ofChange Rows.curveHalvesSpec) :=
  OpenClaim.holds_of_wide 6 Try.f6 rfl rfl rfl rfl rfl rfl rfl ⟨rfl, rfl, rfl, rfl, rfl⟩ rfl rfl rfl rfl rfl (by kernel_rfl) Try.func6 (by kernel_rfl)
    (of_decide_eq_true (by kernel_rfl)) (by unfold Func.isWrapper; first | (rw [if_pos (by decide +kernel)]; kernel_rfl) | (rw [if_neg (by decide +kernel)]; exact ⟨rfl, rfl⟩))
    (fun os started H enc _ => lifted os started H enc)

theorem proved : Rows.CurveHalvesSaid :=
  over
#print axioms proved
end Go.Proofs.Ytdlheikkeokoeaa.curveHalves
