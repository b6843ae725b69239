/- For every number the Go function CurveSilus returns true (Silu of a number is nought of nought, no greater than a number above nought, and never below -21845) and leaves its argument as it was; no condition. -/
import Derived.Test.YtdlheikkeokoeabRows
import Derived.Test.YtdlheikkeokoeabSat
import Derived.Test.YtdlheikkeokoeabTabs
import Derived.Test.YtdlheikkeokoeabArith
import Derived.Test.YtdlheikkeokoeabExp
import Derived.Test.YtdlheikkeokoeabRoot
import Derived.Test.YtdlheikkeokoeabOrder
import Derived.Test.YtdlheikkeokoeabWorks
import Derived.WalkKit
import Derived.ProofKit
import Derived.OpenShut
import Derived.WalkLawsBesides
namespace Go.Proofs.Ytdlheikkeokoeab.curveSilus
open Go.ChangeShapes Go.WideShapes Go.ChangeAt Go.RowKit
set_option linter.unusedVariables false
set_option linter.unusedSimpArgs false

theorem own : ownKnob Try.prog.godebug = none := by kernel_rfl

def lowZ (u : Int) : Int := 65536 - upZ u

theorem lowZ_falls (u v : Int) (h : u ≤ v) : lowZ v ≤ lowZ u := by
  have e := expZ_rises (-v) (-u) (by omega)
  have a := expZ_bounds (-v)
  have b := expZ_bounds (-u)
  unfold lowZ
  rw [upZ_eq, upZ_eq]
  generalize expZ (-v) = E at *
  generalize expZ (-u) = F at *
  have q0 : 0 ≤ 4294967296 / (65536 + F) := Int.ediv_nonneg (by decide) (by omega)
  have d1 := Int.ediv_mul_le 4294967296 (show 65536 + F ≠ 0 by omega)
  have d2 := Int.mul_le_mul_of_nonneg_left (show 65536 + E ≤ 65536 + F by omega) q0
  have d3 : 4294967296 / (65536 + F) ≤ 4294967296 / (65536 + E) := Int.le_ediv_of_mul_le (by omega) (by omega)
  omega

theorem lowZ_nonneg (u : Int) : 0 ≤ lowZ u := by
  have := upZ_bounds u
  unfold lowZ
  omega

theorem low_step (a b S u : Int) (hS : lowZ a = S) (hb : b * S < 1431666688) (h0 : 0 ≤ u) (h : a ≤ u) (h' : u ≤ b) : u * lowZ u < 1431666688 := by
  have f := lowZ_falls a u h
  have n := lowZ_nonneg u
  rw [hS] at f
  have := Int.mul_le_mul h' f n (by omega)
  omega

theorem low_all (u : Int) (h0 : 0 ≤ u) : u * lowZ u < 1431666688 := by
  by_cases k1 : u ≤ 43690
  · exact low_step 0 43690 32768 u (by decide +kernel) (by decide) h0 (by omega) k1
  by_cases k2 : u ≤ 64382
  · exact low_step 43690 64382 22237 u (by decide +kernel) (by decide) h0 (by omega) k2
  by_cases k3 : u ≤ 80178
  · exact low_step 64382 80178 17856 u (by decide +kernel) (by decide) h0 (by omega) k3
  by_cases k4 : u ≤ 96078
  · exact low_step 80178 96078 14901 u (by decide +kernel) (by decide) h0 (by omega) k4
  by_cases k5 : u ≤ 116461
  · exact low_step 96078 116461 12293 u (by decide +kernel) (by decide) h0 (by omega) k5
  by_cases k6 : u ≤ 151003
  · exact low_step 116461 151003 9481 u (by decide +kernel) (by decide) h0 (by omega) k6
  by_cases k7 : u ≤ 240616
  · exact low_step 151003 240616 5950 u (by decide +kernel) (by decide) h0 (by omega) k7
  by_cases k8 : u ≤ 880483
  · exact low_step 240616 880483 1626 u (by decide +kernel) (by decide) h0 (by omega) k8
  have e : lowZ 880483 = 0 := by decide +kernel
  have f := lowZ_falls 880483 u (by omega)
  have n := lowZ_nonneg u
  have z : lowZ u = 0 := by omega
  rw [z]; omega

theorem clampZ_in (x : Int) (h0 : -2147483648 ≤ x) (h1 : x ≤ 2147483647) : clampZ x = x := by
  unfold clampZ
  rw [if_neg (by omega), if_neg (by omega)]

theorem silu_neg (c : Int) (h0 : -2147483648 < c) (h1 : c < 0) : -21845 ≤ siluZ c ∧ siluZ c ≤ 0 := by
  have sb := sigZ_bounds c
  have l := low_all (-c) (by omega)
  have n := Int.mul_nonneg (show 0 ≤ -c by omega) (lowZ_nonneg (-c))
  have e1 := clampZ_in c (by omega) (by omega)
  have e2 := clampZ_in (sigZ c) (by omega) (by omega)
  have e3 : sigZ c = lowZ (-c) := by unfold sigZ lowZ; rw [e1, if_pos h1]
  unfold siluZ
  rw [mulZ_sixteen, e1, e2, e3]
  have e4 : c * lowZ (-c) = -(-c * lowZ (-c)) := by rw [Int.neg_mul, Int.neg_neg]
  rw [e4]
  generalize -c * lowZ (-c) = M at *
  have e5 : (if -M < 0 then -((- -M / 32768 + 1) / 2) else (-M / 32768 + 1) / 2) = -((M / 32768 + 1) / 2) := by
    split <;> omega
  rw [e5, clampZ_in _ (by omega) (by omega)]
  omega

theorem silu_pos (c : Int) (h0 : 0 < c) (h1 : c ≤ 2147483647) : 0 ≤ siluZ c ∧ siluZ c ≤ c := by
  have sb := sigZ_bounds c
  have n := Int.mul_nonneg (show 0 ≤ c by omega) sb.1
  have m := Int.mul_le_mul_of_nonneg_left sb.2 (show 0 ≤ c by omega)
  have e1 := clampZ_in c (by omega) (by omega)
  have e2 := clampZ_in (sigZ c) (by omega) (by omega)
  unfold siluZ
  rw [mulZ_sixteen, e1, e2]
  generalize c * sigZ c = M at *
  rw [if_neg (by omega), clampZ_in _ (by omega) (by omega)]
  omega


theorem walk (a0 : Int) (w0 : (Lit.int .i64 a0).wf = true) (w : World) :
    Calls Try.prog 3 #[.int .i64 a0] w fun e w' => e = .returned (.bool true) ∧ Grown w w' := by
  have hg : Grown w w := Grown.refl w
  have z0 : siluZ (-2147483647) = 0 := by decide +kernel
  have z1 : siluZ 0 = 0 := by decide +kernel
  have z2 : siluZ 2147483647 = 2147483647 := by decide +kernel
  rcases (show a0 < -2147483647 ∨ a0 = -2147483647 ∨ (-2147483647 < a0 ∧ a0 < 0) ∨ a0 = 0 ∨ (0 < a0 ∧ a0 < 2147483647) ∨ a0 = 2147483647 ∨ 2147483647 < a0 by omega) with h | h | ⟨h, h'⟩ | h | ⟨h, h'⟩ | h | h
  · clear z1 z2
    go_enter Try.func3, Try.ntmps3
    go_wp2_with (first | (go_at_call 4; refine (works_call _).mono ?_; rintro e w' ⟨rfl, hg'⟩; replace hg := grown_trans hg hg'; clear hg') | (go_at_call 5; refine (silu_call _ (by first | assumption | decide) _).mono ?_; rintro e w' ⟨rfl, hg'⟩; replace hg := grown_trans hg hg'; clear hg'))
    all_goals go_ret
    all_goals exact ⟨rfl, hg⟩
  · subst h
    clear z1 z2
    go_enter Try.func3, Try.ntmps3
    go_wp2_with (first | (go_at_call 4; refine (works_call _).mono ?_; rintro e w' ⟨rfl, hg'⟩; replace hg := grown_trans hg hg'; clear hg') | (go_at_call 5; refine (silu_call _ (by first | assumption | decide) _).mono ?_; rintro e w' ⟨rfl, hg'⟩; replace hg := grown_trans hg hg'; clear hg'))
    all_goals go_ret
    all_goals exact ⟨rfl, hg⟩
  · obtain ⟨s0, s1⟩ := silu_neg a0 (by omega) h'
    obtain ⟨Y, eY⟩ : ∃ Y, siluZ a0 = Y := ⟨_, rfl⟩
    rw [eY] at s0 s1
    have k : (a0 == 0) = false := by simp only [beq_eq_false_iff_ne, ne_eq]; omega
    clear z0 z1 z2
    go_enter Try.func3, Try.ntmps3
    go_wp2_with (first | (go_at_call 4; refine (works_call _).mono ?_; rintro e w' ⟨rfl, hg'⟩; replace hg := grown_trans hg hg'; clear hg') | (go_at_call 5; refine (silu_call _ (by first | assumption | decide) _).mono ?_; rintro e w' ⟨rfl, hg'⟩; replace hg := grown_trans hg hg'; clear hg'))
    all_goals go_ret
    all_goals exact ⟨rfl, hg⟩
  · subst h
    clear z0 z2
    go_enter Try.func3, Try.ntmps3
    go_wp2_with (first | (go_at_call 4; refine (works_call _).mono ?_; rintro e w' ⟨rfl, hg'⟩; replace hg := grown_trans hg hg'; clear hg') | (go_at_call 5; refine (silu_call _ (by first | assumption | decide) _).mono ?_; rintro e w' ⟨rfl, hg'⟩; replace hg := grown_trans hg hg'; clear hg'))
    all_goals go_ret
    all_goals exact ⟨rfl, hg⟩
  · obtain ⟨s0, s1⟩ := silu_pos a0 h (by omega)
    obtain ⟨Y, eY⟩ : ∃ Y, siluZ a0 = Y := ⟨_, rfl⟩
    rw [eY] at s0 s1
    have k : (a0 == 0) = false := by simp only [beq_eq_false_iff_ne, ne_eq]; omega
    clear z0 z1 z2
    go_enter Try.func3, Try.ntmps3
    go_wp2_with (first | (go_at_call 4; refine (works_call _).mono ?_; rintro e w' ⟨rfl, hg'⟩; replace hg := grown_trans hg hg'; clear hg') | (go_at_call 5; refine (silu_call _ (by first | assumption | decide) _).mono ?_; rintro e w' ⟨rfl, hg'⟩; replace hg := grown_trans hg hg'; clear hg'))
    all_goals go_ret
    all_goals exact ⟨rfl, hg⟩
  · subst h
    clear z0 z1
    go_enter Try.func3, Try.ntmps3
    go_wp2_with (first | (go_at_call 4; refine (works_call _).mono ?_; rintro e w' ⟨rfl, hg'⟩; replace hg := grown_trans hg hg'; clear hg') | (go_at_call 5; refine (silu_call _ (by first | assumption | decide) _).mono ?_; rintro e w' ⟨rfl, hg'⟩; replace hg := grown_trans hg hg'; clear hg'))
    all_goals go_ret
    all_goals exact ⟨rfl, hg⟩
  · clear z0 z1
    go_enter Try.func3, Try.ntmps3
    go_wp2_with (first | (go_at_call 4; refine (works_call _).mono ?_; rintro e w' ⟨rfl, hg'⟩; replace hg := grown_trans hg hg'; clear hg') | (go_at_call 5; refine (silu_call _ (by first | assumption | decide) _).mono ?_; rintro e w' ⟨rfl, hg'⟩; replace hg := grown_trans hg hg'; clear hg'))
    all_goals go_ret
    all_goals exact ⟨rfl, hg⟩

set_option maxRecDepth 100000 in
theorem lifted (os : Os) (started : os.Started) (H : Type) (enc : TypeId × Value → H) :
    ReturnsInHanded {} Try.checked os 3 .any (Rows.curveSilusSpec.pre6 enc Try.prog Try.f3 Rows.curveSilusRow.domain false) (Rows.curveSilusSpec.post enc Try.prog Try.f3 false true false false) := by
  refine returnsInHanded_of_change (C := Try.checked) own started (by kernel_rfl) Try.func3
    (ChangeSpec.witness6 (enc := enc) (C := Try.checked) false ⟨#[], #[.int .i64 0], []⟩ 8 (by kernel_rfl) (by kernel_rfl) (by kernel_rfl) (by kernel_rfl)) ?_
  intro W base args ds gs before hval0 hW hcnd _
  have hval : ∀ (j : Nat) t v, Try.f3.params[j]? = some t → args[j]? = some v → Value.okWide Try.prog W .any base t v := hval0
  have hW' := hW
  obtain ⟨p, q, hA0, hV, rfl, hfz, hnd⟩ := hW
  have hA : DataW.TrodAll enc Try.prog W 0 (fun _ => true) true Try.f3.params.toList args.toList ds p := hA0
  rw [Try.params3] at hA hval
  obtain ⟨v0, vs0, d0, ds0, p0, q0, hargs, rfl, rfl, h0, r0⟩ := trodAll_cons hA
  obtain ⟨rfl, rfl, rfl⟩ := trodAll_nil r0
  obtain rfl : args = #[v0] := by cases args; simp_all
  obtain ⟨rfl, rfl⟩ := trodVars_none hV
  obtain ⟨a0, rfl, rfl, rfl, w0⟩ := open_int Try.underlying2 (hval 0 2 v0 rfl rfl) h0
  clear hA0 hval0
  simp only [List.append_nil] at hW'
  refine (walk a0 w0 W).mono fun e W' ⟨he, hg⟩ => ?_
  subst he
  exact ⟨_, rfl, post_of_same (pa := []) (pv := []) hW' (fun _ _ _ => (trodAll_cons_mk (shut_bool Try.underlying4 _) trodAll_mk0)) (fun sp _ => (trodAll_cons_mk (shut_int Try.underlying2 w0) trodAll_mk0)) (fun _ _ => rfl) rfl
    (hg.frame _) hg.2.1 (ok_one (by kernel_rfl) rfl (okWide_bool_mk Try.underlying4 _))⟩

theorem over : Rows.curveSilusRow.holds Try.pinned (OpenSpec.ofChange Rows.curveSilusSpec) :=
  OpenClaim.holds_of_wide 3 Try.f3 rfl rfl rfl rfl rfl rfl rfl ⟨rfl, rfl, rfl, rfl, rfl⟩ rfl rfl rfl rfl rfl (by kernel_rfl) Try.func3 (by kernel_rfl)
    (of_decide_eq_true (by kernel_rfl)) (by unfold Func.isWrapper; first | (rw [if_pos (by decide +kernel)]; kernel_rfl) | (rw [if_neg (by decide +kernel)]; exact ⟨rfl, rfl⟩))
    (fun os started H enc _ => lifted os started H enc)

theorem proved : Rows.CurveSilusSaid :=
  over
#print axioms proved
end Go.Proofs.Ytdlheikkeokoeab.curveSilus
