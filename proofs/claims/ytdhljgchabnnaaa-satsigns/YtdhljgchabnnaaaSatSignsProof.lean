/- For every number and every count the Go function SatSigns returns true (signs turn with the number, halves are met) and leaves its arguments as they were; no condition. -/
import Derived.Test.YtdhljgchabnnaaaRows
import Derived.Test.YtdhljgchabnnaaaCalls
import Derived.WalkKit
import Derived.ProofKit
import Derived.OpenShut
namespace Go.Proofs.Ytdhljgchabnnaaa.satSigns
open Go.ChangeShapes Go.WideShapes Go.ChangeAt Go.RowKit
set_option linter.unusedVariables false      -- a walk need not use every 'w<i>' (that an integer argument fits its kind)

theorem own : ownKnob Try.prog.godebug = none := by kernel_rfl

theorem tdiv4_bounds (x : Int) (h0 : -9223372036854775808 ≤ x) (h1 : x ≤ 9223372036854775807) : -2305843009213693952 ≤ x.tdiv 4 ∧ x.tdiv 4 ≤ 2305843009213693951 := by
  by_cases h : 0 ≤ x
  · rw [Int.tdiv_eq_ediv_of_nonneg h]; omega
  · have e : x.tdiv 4 = -((-x) / 4) := by
      have := Int.neg_tdiv (a := -x) (b := 4)
      rw [Int.neg_neg] at this
      rw [this, Int.tdiv_eq_ediv_of_nonneg (by omega)]
    omega

theorem wrap_rest (a : Int) : 0 ≤ wrap64 ((IntKind.u64.wrap a).tmod 40) ∧ wrap64 ((IntKind.u64.wrap a).tmod 40) < 40 := by
  have hu : 0 ≤ IntKind.u64.wrap a := by rw [IntKind.wrap_u64]; omega
  generalize IntKind.u64.wrap a = u at hu
  rw [Int.tmod_eq_emod_of_nonneg hu, wrap64_eq]
  omega

theorem two_pow_bounds (N : Int) (h1 : N < 40) : 1 ≤ (2 : Int) ^ N.toNat ∧ (2 : Int) ^ N.toNat ≤ 549755813888 := by
  constructor
  · exact Int.pow_pos (by decide)
  · have h : (2 : Nat) ^ N.toNat ≤ 2 ^ 39 := Nat.pow_le_pow_right (by decide) (by omega)
    have h2 : ((2 ^ N.toNat : Nat) : Int) ≤ ((2 ^ 39 : Nat) : Int) := Int.ofNat_le.mpr h
    rw [Int.natCast_pow] at h2
    exact h2

theorem halves (s H : Int) (hH : 0 < H) : 2 * (s - (s / H + 1) / 2 * (H * 2)) ≤ H * 2 ∧ -(H * 2) ≤ 2 * (s - (s / H + 1) / 2 * (H * 2)) := by
  have e := Int.mul_ediv_add_emod s H
  have r0 := Int.emod_nonneg s (Int.ne_of_gt hH)
  have r1 := Int.emod_lt_of_pos s hH
  generalize s % H = r at *
  generalize s / H = q at *
  obtain ⟨u, hu⟩ : ∃ u, (q + 1) / 2 = u := ⟨_, rfl⟩
  rw [hu]
  have hq : q = 2 * u ∨ q = 2 * u - 1 := by omega
  rcases hq with hq | hq
  · subst hq
    have e2 : u * (H * 2) = H * (2 * u) := by
      rw [Int.mul_left_comm, Int.mul_comm u 2]
    omega
  · subst hq
    have e2 : u * (H * 2) = H * (2 * u - 1) + H := by
      rw [Int.mul_sub, Int.mul_one, Int.mul_left_comm, Int.mul_comm u 2]
      omega
    omega

theorem core (X N : Int) (h0 : 0 ≤ N) (h1 : N < 40) : 2 * (X - shiftZ X N * 2 ^ N.toNat) ≤ 2 ^ N.toNat ∧ -(2 ^ N.toNat) ≤ 2 * (X - shiftZ X N * 2 ^ N.toNat) := by
  by_cases hN : N = 0
  · subst hN
    have e : shiftZ X 0 = X := by unfold shiftZ; rw [if_pos (by decide)]
    have e1 : (2 : Int) ^ (0 : Int).toNat = 1 := by decide
    rw [e, e1]
    omega
  · have hm : min N 62 = N := by omega
    have hp : (0 : Int) < 2 ^ (N.toNat - 1) := Int.pow_pos (by decide)
    rw [pow_step N (by omega)]
    unfold shiftZ
    rw [if_neg (by omega), hm]
    split
    · have := halves (-X) (2 ^ (N.toNat - 1)) hp
      unfold shN
      rw [Int.neg_mul]
      omega
    · exact halves X (2 ^ (N.toNat - 1)) hp

theorem shiftZ_neg (X N : Int) : shiftZ (-X) N = -shiftZ X N := by
  unfold shiftZ
  split
  · rfl
  · have z : shN 0 (min N 62) = 0 := by
      unfold shN
      rw [Int.zero_ediv]
      rfl
    by_cases h : X < 0
    · rw [if_pos h, if_neg (by omega), Int.neg_neg]
    · rw [if_neg h]
      by_cases h2 : X = 0
      · subst h2
        rw [if_neg (by omega), Int.neg_zero, z]
        rfl
      · rw [if_pos (by omega), Int.neg_neg]

/-! ### STEP 1: THE WALK: the Go text returns true. 'Grown w w'': the world has at most new blocks (Derived/RowKit3.lean). Part the cases AHEAD of 'go_enter' where a test parts the walk; take each callee by a contract of your own. -/
theorem walk (a0 : Int) (a1 : Int) (w0 : (Lit.int .i64 a0).wf = true) (w1 : (Lit.int .i64 a1).wf = true) (w : World) :
    Calls Try.prog 7 #[.int .i64 a0, .int .i64 a1] w fun e w' => e = .returned (.bool true) ∧ Grown w w' := by
  have b0 := bounds_i64 w0
  have t0 := tdiv4_bounds a0 b0.1 b0.2
  have n0 := wrap_rest a1
  obtain ⟨X, eX⟩ : ∃ X, a0.tdiv 4 = X := ⟨_, rfl⟩
  obtain ⟨N, eN⟩ : ∃ N, wrap64 ((IntKind.u64.wrap a1).tmod 40) = N := ⟨_, rfl⟩
  rw [eX] at t0
  rw [eN] at n0
  have wx : (Lit.int .i64 X).wf = true := WalkArith.wf_i64 (by omega)
  have wmx : (Lit.int .i64 (-X)).wf = true := WalkArith.wf_i64 (by omega)
  have wn : (Lit.int .i64 N).wf = true := WalkArith.wf_i64 (by omega)
  have bP := two_pow_bounds N n0.2
  have c := core X N n0.1 n0.2
  have sn := shiftZ_neg X N
  obtain ⟨P, eP⟩ : ∃ P, (2 : Int) ^ N.toNat = P := ⟨_, rfl⟩
  rw [eP] at c bP
  have wq := bounds_i64 (wf_shiftZ (-X) N wmx)
  obtain ⟨Q, eQ⟩ : ∃ Q, shiftZ X N = Q := ⟨_, rfl⟩
  rw [sn, eQ] at wq
  rw [eQ] at c sn
  obtain ⟨M, eM⟩ : ∃ M, Q * P = M := ⟨_, rfl⟩
  rw [eM] at c
  have kk : (-Q != -Q) = false := by simp
  have k1 : ¬ P < 2 * (X - M) := by omega
  have k2 : ¬ 2 * (X - M) < -P := by omega
  go_enter Try.func7, Try.ntmps7
  go_wp2_with (first | (go_at_call 19; refine (works_call _).mono ?_; rintro e w' ⟨rfl, rfl⟩) | (go_at_call 13; refine (shift_call _ _ (by first | assumption | decide) (by first | assumption | decide) _).mono ?_; rintro e w' ⟨rfl, rfl⟩))
  all_goals go_ret
  all_goals exact ⟨rfl, by repeat (first | exact Grown.refl _ | apply Grown.drew | apply Grown.alloc)⟩

/-! ### THE ROW's STEP: WRITTEN OUT: LEAVE IT -/
set_option maxRecDepth 100000 in
theorem lifted (os : Os) (started : os.Started) (H : Type) (enc : TypeId × Value → H) :
    ReturnsInHanded {} Try.checked os 7 .any (Rows.satSignsSpec.pre6 enc Try.prog Try.f7 Rows.satSignsRow.domain false) (Rows.satSignsSpec.post enc Try.prog Try.f7 false true false false) := by
  refine returnsInHanded_of_change (C := Try.checked) own started (by kernel_rfl) Try.func7
    (ChangeSpec.witness6 (enc := enc) (C := Try.checked) false ⟨#[], #[.int .i64 0, .int .i64 0], []⟩ 8 (by kernel_rfl) (by kernel_rfl) (by kernel_rfl) (by kernel_rfl)) ?_
  intro W base args ds gs before hval0 hW hcnd _
  have hval : ∀ (j : Nat) t v, Try.f7.params[j]? = some t → args[j]? = some v → Value.okWide Try.prog W .any base t v := hval0
  have hW' := hW
  obtain ⟨p, q, hA0, hV, rfl, hfz, hnd⟩ := hW
  have hA : DataW.TrodAll enc Try.prog W 0 (fun _ => true) true Try.f7.params.toList args.toList ds p := hA0
  rw [Try.params7] at hA hval
  obtain ⟨v0, vs0, d0, ds0, p0, q0, hargs, rfl, rfl, h0, r0⟩ := trodAll_cons hA
  obtain ⟨v1, vs1, d1, ds1, p1, q1, rfl, rfl, rfl, h1, r1⟩ := trodAll_cons r0
  obtain ⟨rfl, rfl, rfl⟩ := trodAll_nil r1
  obtain rfl : args = #[v0, v1] := by cases args; simp_all
  obtain ⟨rfl, rfl⟩ := trodVars_none hV
  obtain ⟨a0, rfl, rfl, rfl, w0⟩ := open_int Try.underlying2 (hval 0 2 v0 rfl rfl) h0
  obtain ⟨a1, rfl, rfl, rfl, w1⟩ := open_int Try.underlying3 (hval 1 3 v1 rfl rfl) h1
  clear hA0 hval0
  simp only [List.append_nil] at hW'
  refine (walk a0 a1 w0 w1 W).mono fun e W' ⟨he, hg⟩ => ?_
  subst he
  exact ⟨_, rfl, post_of_same (pa := []) (pv := []) hW' (fun _ _ _ => (trodAll_cons_mk (shut_bool Try.underlying4 _) trodAll_mk0)) (fun sp _ => (trodAll_cons_mk (shut_int Try.underlying2 w0) (trodAll_cons_mk (shut_int Try.underlying3 w1) trodAll_mk0))) (fun _ _ => rfl) rfl
    (hg.frame _) hg.2.1 (ok_one (by kernel_rfl) rfl (okWide_bool_mk Try.underlying4 _))⟩

theorem over : Rows.satSignsRow.holds Try.pinned (OpenSpec.ofChange Rows.satSignsSpec) :=
  OpenClaim.holds_of_wide 7 Try.f7 rfl rfl rfl rfl rfl rfl rfl ⟨rfl, rfl, rfl, rfl, rfl⟩ rfl rfl rfl rfl rfl (by kernel_rfl) Try.func7 (by kernel_rfl)
    (of_decide_eq_true (by kernel_rfl)) (by unfold Func.isWrapper; first | (rw [if_pos (by decide +kernel)]; kernel_rfl) | (rw [if_neg (by decide +kernel)]; exact ⟨rfl, rfl⟩))
    (fun os started H enc _ => lifted os started H enc)

/-- ████ THE STATEMENT ████ -/
theorem proved : Rows.SatSignsSaid :=
  over
#print axioms proved
end Go.Proofs.Ytdhljgchabnnaaa.satSigns
