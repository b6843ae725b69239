/- For every three numbers the Go function SatThree returns true (sums do not hang on brackets, a quotient times its divisor is the number but for less than the divisor) and leaves its arguments as they were; no condition. -/
import Derived.Test.YtdhljgchabnnaaaRows
import Derived.Test.YtdhljgchabnnaaaCalls
import Derived.WalkKit
import Derived.ProofKit
import Derived.OpenShut
namespace Go.Proofs.Ytdhljgchabnnaaa.satThree
open Go.ChangeShapes Go.WideShapes Go.ChangeAt Go.RowKit
set_option linter.unusedVariables false      -- a walk need not use every 'w<i>' (that an integer argument fits its kind)

theorem own : ownKnob Try.prog.godebug = none := by kernel_rfl

theorem tdiv4_bounds (x : Int) (h0 : -9223372036854775808 ≤ x) (h1 : x ≤ 9223372036854775807) : -2305843009213693952 ≤ x.tdiv 4 ∧ x.tdiv 4 ≤ 2305843009213693951 := by
  by_cases h : 0 ≤ x
  · rw [Int.tdiv_eq_ediv_of_nonneg h]; omega
  · have e : x.tdiv 4 = -((-x) / 4) := by
      have := Int.neg_tdiv (a := -x) (b := 4)
      rw [Int.neg_neg] at this
      rw [this, Int.tdiv_eq_ediv_of_nonneg (by omega)]
    omega

theorem addZ_in (a b : Int) (h0 : -9223372036854775808 ≤ a + b) (h1 : a + b ≤ 9223372036854775807) : addZ a b = a + b := by
  unfold addZ; rw [if_neg (by omega), if_neg (by omega)]

theorem three (x y z : Int) (hx : -2305843009213693952 ≤ x ∧ x ≤ 2305843009213693951) (hy : -2305843009213693952 ≤ y ∧ y ≤ 2305843009213693951) (hz : -2305843009213693952 ≤ z ∧ z ≤ 2305843009213693951) :
    (addZ (addZ x y) z != addZ x (addZ y z)) = false := by
  rw [addZ_in x y (by omega) (by omega), addZ_in y z (by omega) (by omega), addZ_in (x + y) z (by omega) (by omega), addZ_in x (y + z) (by omega) (by omega), Int.add_assoc]
  simp

theorem rest_bounds (a : Int) : -1048576 < a.tmod 1048576 ∧ a.tmod 1048576 < 1048576 :=
  ⟨Int.lt_tmod_of_pos a (by decide), Int.tmod_lt_of_pos a (by decide)⟩

theorem wrap_rest (a : Int) : 0 ≤ wrap64 ((IntKind.u64.wrap a).tmod 1048576) ∧ wrap64 ((IntKind.u64.wrap a).tmod 1048576) < 1048576 := by
  have hu : 0 ≤ IntKind.u64.wrap a := by rw [IntKind.wrap_u64]; omega
  generalize IntKind.u64.wrap a = u at hu
  rw [Int.tmod_eq_emod_of_nonneg hu, wrap64_eq]
  omega

theorem clampZ_in (x : Int) (h0 : -2147483648 ≤ x) (h1 : x ≤ 2147483647) : clampZ x = x := by
  unfold clampZ; rw [if_neg (by omega), if_neg (by omega)]

theorem tdiv_bounds (x q : Int) (hx : -68719476736 ≤ x ∧ x ≤ 68719476736) (hq : 1 ≤ q) : -68719476736 ≤ x.tdiv q ∧ x.tdiv q ≤ 68719476736 := by
  by_cases h : 0 ≤ x
  · rw [Int.tdiv_eq_ediv_of_nonneg h]
    have h1 := Int.ediv_le_self q h
    have h2 := Int.ediv_nonneg h (show 0 ≤ q by omega)
    omega
  · have e : x.tdiv q = -((-x) / q) := by
      have := Int.neg_tdiv (a := -x) (b := q)
      rw [Int.neg_neg] at this
      rw [this, Int.tdiv_eq_ediv_of_nonneg (by omega)]
    have h1 := Int.ediv_le_self q (show 0 ≤ -x by omega)
    have h2 := Int.ediv_nonneg (show 0 ≤ -x by omega) (show 0 ≤ q by omega)
    omega

theorem quot (p q d : Int) (hp : -1048576 < p ∧ p < 1048576) (hq : 1 ≤ q ∧ q ≤ 1048576) (hd : divZ p q = d) (h1 : d ≤ 2147483646) (h2 : -2147483646 ≤ d) :
    p * 65536 - d * q < q ∧ -q < p * 65536 - d * q := by
  unfold divZ at hd
  rw [clampZ_in p (by omega) (by omega), clampZ_in q (by omega) (by omega), if_neg (by omega)] at hd
  have t := tdiv_bounds (p * 65536) q (by omega) hq.1
  have ew : wrap64 ((p * 65536).tdiv q) = (p * 65536).tdiv q := by
    rw [wrap64_eq]
    omega
  rw [ew] at hd
  have e : (p * 65536).tdiv q = d := by
    unfold clampZ at hd
    split at hd
    · omega
    · split at hd
      · omega
      · exact hd
  have m := Int.mul_tdiv_add_tmod (p * 65536) q
  have m1 := Int.lt_tmod_of_pos (p * 65536) (show 0 < q by omega)
  have m2 := Int.tmod_lt_of_pos (p * 65536) (show 0 < q by omega)
  rw [e, Int.mul_comm q d] at m
  omega

theorem prod_bounds (d q : Int) (h1 : d ≤ 2147483646) (h2 : -2147483646 ≤ d) (hq : 1 ≤ q ∧ q ≤ 1048576) : -2251799813685248 ≤ d * q ∧ d * q ≤ 2251799813685248 := by
  have a1 : d * q ≤ 2147483646 * q := Int.mul_le_mul_of_nonneg_right h1 (by omega)
  have a2 : -2147483646 * q ≤ d * q := Int.mul_le_mul_of_nonneg_right h2 (by omega)
  omega

/-! ### STEP 1: THE WALK: the Go text returns true. 'Grown w w'': the world has at most new blocks (Derived/RowKit3.lean). Part the cases AHEAD of 'go_enter' where a test parts the walk; take each callee by a contract of your own. -/
theorem walk (a0 : Int) (a1 : Int) (a2 : Int) (w0 : (Lit.int .i64 a0).wf = true) (w1 : (Lit.int .i64 a1).wf = true) (w2 : (Lit.int .i64 a2).wf = true) (w : World) :
    Calls Try.prog 8 #[.int .i64 a0, .int .i64 a1, .int .i64 a2] w fun e w' => e = .returned (.bool true) ∧ Grown w w' := by
  have b0 := bounds_i64 w0
  have b1 := bounds_i64 w1
  have b2 := bounds_i64 w2
  have t0 := tdiv4_bounds a0 b0.1 b0.2
  have t1 := tdiv4_bounds a1 b1.1 b1.2
  have t2 := tdiv4_bounds a2 b2.1 b2.2
  have rp := rest_bounds a0
  have rq := wrap_rest a1
  obtain ⟨X, eX⟩ : ∃ X, a0.tdiv 4 = X := ⟨_, rfl⟩
  obtain ⟨Y, eY⟩ : ∃ Y, a1.tdiv 4 = Y := ⟨_, rfl⟩
  obtain ⟨Z, eZ⟩ : ∃ Z, a2.tdiv 4 = Z := ⟨_, rfl⟩
  obtain ⟨p, ep⟩ : ∃ p, a0.tmod 1048576 = p := ⟨_, rfl⟩
  obtain ⟨q, eq⟩ : ∃ q, wrap64 ((IntKind.u64.wrap a1).tmod 1048576) = q := ⟨_, rfl⟩
  rw [eX] at t0
  rw [eY] at t1
  rw [eZ] at t2
  rw [ep] at rp
  rw [eq] at rq
  have k3 := three X Y Z t0 t1 t2
  have wX : (Lit.int .i64 X).wf = true := WalkArith.wf_i64 (by omega)
  have wY : (Lit.int .i64 Y).wf = true := WalkArith.wf_i64 (by omega)
  have wZ : (Lit.int .i64 Z).wf = true := WalkArith.wf_i64 (by omega)
  have wXY := wf_addZ X Y
  have wYZ := wf_addZ Y Z
  have wp : (Lit.int .i64 p).wf = true := WalkArith.wf_i64 (by omega)
  have wq : (Lit.int .i64 (1 + q)).wf = true := WalkArith.wf_i64 (by omega)
  obtain ⟨d, ed⟩ : ∃ d, divZ p (1 + q) = d := ⟨_, rfl⟩
  by_cases d1 : 2147483646 < d
  · go_enter Try.func8, Try.ntmps8
    go_wp2_with (first | (go_at_call 19; refine (works_call _).mono ?_; rintro e w' ⟨rfl, rfl⟩) | (go_at_call 11; refine (add_call _ _ (by first | assumption | decide) (by first | assumption | decide) _).mono ?_; rintro e w' ⟨rfl, rfl⟩) | (go_at_call 17; refine (div_call _ _ (by first | assumption | decide) (by first | assumption | decide) _).mono ?_; rintro e w' ⟨rfl, rfl⟩))
    all_goals go_ret
    all_goals exact ⟨rfl, by repeat (first | exact Grown.refl _ | apply Grown.drew | apply Grown.alloc)⟩
  · by_cases d2 : d < -2147483646
    · go_enter Try.func8, Try.ntmps8
      go_wp2_with (first | (go_at_call 19; refine (works_call _).mono ?_; rintro e w' ⟨rfl, rfl⟩) | (go_at_call 11; refine (add_call _ _ (by first | assumption | decide) (by first | assumption | decide) _).mono ?_; rintro e w' ⟨rfl, rfl⟩) | (go_at_call 17; refine (div_call _ _ (by first | assumption | decide) (by first | assumption | decide) _).mono ?_; rintro e w' ⟨rfl, rfl⟩))
      all_goals go_ret
      all_goals exact ⟨rfl, by repeat (first | exact Grown.refl _ | apply Grown.drew | apply Grown.alloc)⟩
    · have kq := quot p (1 + q) d rp (by omega) ed (by omega) (by omega)
      have kb := prod_bounds d (1 + q) (by omega) (by omega) (by omega)
      obtain ⟨M, eM⟩ : ∃ M, d * (1 + q) = M := ⟨_, rfl⟩
      rw [eM] at kq kb
      go_enter Try.func8, Try.ntmps8
      go_wp2_with (first | (go_at_call 19; refine (works_call _).mono ?_; rintro e w' ⟨rfl, rfl⟩) | (go_at_call 11; refine (add_call _ _ (by first | assumption | decide) (by first | assumption | decide) _).mono ?_; rintro e w' ⟨rfl, rfl⟩) | (go_at_call 17; refine (div_call _ _ (by first | assumption | decide) (by first | assumption | decide) _).mono ?_; rintro e w' ⟨rfl, rfl⟩))
      all_goals go_ret
      all_goals exact ⟨rfl, by repeat (first | exact Grown.refl _ | apply Grown.drew | apply Grown.alloc)⟩

/-! ### THE ROW's STEP: WRITTEN OUT: LEAVE IT -/
set_option maxRecDepth 100000 in
theorem lifted (os : Os) (started : os.Started) (H : Type) (enc : TypeId × Value → H) :
    ReturnsInHanded {} Try.checked os 8 .any (Rows.satThreeSpec.pre6 enc Try.prog Try.f8 Rows.satThreeRow.domain false) (Rows.satThreeSpec.post enc Try.prog Try.f8 false true false false) := by
  refine returnsInHanded_of_change (C := Try.checked) own started (by kernel_rfl) Try.func8
    (ChangeSpec.witness6 (enc := enc) (C := Try.checked) false ⟨#[], #[.int .i64 0, .int .i64 0, .int .i64 0], []⟩ 8 (by kernel_rfl) (by kernel_rfl) (by kernel_rfl) (by kernel_rfl)) ?_
  intro W base args ds gs before hval0 hW hcnd _
  have hval : ∀ (j : Nat) t v, Try.f8.params[j]? = some t → args[j]? = some v → Value.okWide Try.prog W .any base t v := hval0
  have hW' := hW
  obtain ⟨p, q, hA0, hV, rfl, hfz, hnd⟩ := hW
  have hA : DataW.TrodAll enc Try.prog W 0 (fun _ => true) true Try.f8.params.toList args.toList ds p := hA0
  rw [Try.params8] at hA hval
  obtain ⟨v0, vs0, d0, ds0, p0, q0, hargs, rfl, rfl, h0, r0⟩ := trodAll_cons hA
  obtain ⟨v1, vs1, d1, ds1, p1, q1, rfl, rfl, rfl, h1, r1⟩ := trodAll_cons r0
  obtain ⟨v2, vs2, d2, ds2, p2, q2, rfl, rfl, rfl, h2, r2⟩ := trodAll_cons r1
  obtain ⟨rfl, rfl, rfl⟩ := trodAll_nil r2
  obtain rfl : args = #[v0, v1, v2] := by cases args; simp_all
  obtain ⟨rfl, rfl⟩ := trodVars_none hV
  obtain ⟨a0, rfl, rfl, rfl, w0⟩ := open_int Try.underlying2 (hval 0 2 v0 rfl rfl) h0
  obtain ⟨a1, rfl, rfl, rfl, w1⟩ := open_int Try.underlying2 (hval 1 2 v1 rfl rfl) h1
  obtain ⟨a2, rfl, rfl, rfl, w2⟩ := open_int Try.underlying2 (hval 2 2 v2 rfl rfl) h2
  clear hA0 hval0
  simp only [List.append_nil] at hW'
  refine (walk a0 a1 a2 w0 w1 w2 W).mono fun e W' ⟨he, hg⟩ => ?_
  subst he
  exact ⟨_, rfl, post_of_same (pa := []) (pv := []) hW' (fun _ _ _ => (trodAll_cons_mk (shut_bool Try.underlying4 _) trodAll_mk0)) (fun sp _ => (trodAll_cons_mk (shut_int Try.underlying2 w0) (trodAll_cons_mk (shut_int Try.underlying2 w1) (trodAll_cons_mk (shut_int Try.underlying2 w2) trodAll_mk0)))) (fun _ _ => rfl) rfl
    (hg.frame _) hg.2.1 (ok_one (by kernel_rfl) rfl (okWide_bool_mk Try.underlying4 _))⟩

theorem over : Rows.satThreeRow.holds Try.pinned (OpenSpec.ofChange Rows.satThreeSpec) :=
  OpenClaim.holds_of_wide 8 Try.f8 rfl rfl rfl rfl rfl rfl rfl ⟨rfl, rfl, rfl, rfl, rfl⟩ rfl rfl rfl rfl rfl (by kernel_rfl) Try.func8 (by kernel_rfl)
    (of_decide_eq_true (by kernel_rfl)) (by unfold Func.isWrapper; first | (rw [if_pos (by decide +kernel)]; kernel_rfl) | (rw [if_neg (by decide +kernel)]; exact ⟨rfl, rfl⟩))
    (fun os started H enc _ => lifted os started H enc)

/-- ████ THE STATEMENT ████ -/
theorem proved : Rows.SatThreeSaid :=
  over
#print axioms proved
end Go.Proofs.Ytdhljgchabnnaaa.satThree
