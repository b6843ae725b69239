/- For every two numbers and every count the Go function SatOrder returns true (sums and products do not hang on the order, One is neutral, shifting keeps the order) and leaves its arguments as they were; no condition. -/
import Derived.Test.YtdhljgchabnnaaaRows
import Derived.Test.YtdhljgchabnnaaaCalls
import Derived.WalkKit
import Derived.ProofKit
import Derived.OpenShut
namespace Go.Proofs.Ytdhljgchabnnaaa.satOrder
open Go.ChangeShapes Go.WideShapes Go.ChangeAt Go.RowKit
set_option linter.unusedVariables false      -- a walk need not use every 'w<i>' (that an integer argument fits its kind)

theorem own : ownKnob Try.prog.godebug = none := by kernel_rfl

theorem addZ_comm (a b : Int) : addZ a b = addZ b a := by
  unfold addZ; rw [Int.add_comm]

theorem mulZ_comm (a b : Int) : mulZ a b = mulZ b a := by
  unfold mulZ; rw [Int.mul_comm]

theorem clampZ_clampZ (a : Int) : clampZ (clampZ a) = clampZ a := by
  have b := clampZ_bounds a
  generalize clampZ a = c at b
  unfold clampZ
  rw [if_neg (by omega), if_neg (by omega)]

theorem clampZ_one : clampZ 65536 = 65536 := by decide

theorem mulZ_one (a : Int) : mulZ a 65536 = clampZ a := by
  have b := clampZ_bounds a
  unfold mulZ
  rw [clampZ_one, wrap64_eq]
  have e : (clampZ a * 65536 + 9223372036854775808) % 18446744073709551616 - 9223372036854775808 = clampZ a * 65536 := by omega
  rw [e]
  have e2 : shiftZ (clampZ a * 65536) 16 = clampZ a := by
    unfold shiftZ
    rw [if_neg (by decide)]
    have e3 : (2 : Int) ^ ((min 16 62 : Int).toNat - 1) = 32768 := by decide
    split
    · unfold shN
      rw [e3]
      omega
    · unfold shN
      rw [e3]
      omega
  rw [e2, clampZ_clampZ]

theorem shN_mono (s t n : Int) (h : s ≤ t) : shN s n ≤ shN t n := by
  unfold shN
  have := Int.ediv_le_ediv (c := 2 ^ (n.toNat - 1)) (Int.pow_pos (by decide)) h
  omega

theorem shN_nonneg (s n : Int) (h : 0 ≤ s) : 0 ≤ shN s n := by
  have b1 := div_bounds s (n.toNat - 1) h
  unfold shN
  omega

theorem shiftZ_mono (a b n : Int) (h : a ≤ b) : shiftZ a n ≤ shiftZ b n := by
  unfold shiftZ
  split
  · exact h
  · split
    · split
      · have := shN_mono (-b) (-a) (min n 62) (by omega)
        omega
      · have h1 := shN_nonneg (-a) (min n 62) (by omega)
        have h2 := shN_nonneg b (min n 62) (by omega)
        omega
    · split
      · omega
      · exact shN_mono a b (min n 62) h

/-! ### STEP 1: THE WALK: the Go text returns true. 'Grown w w'': the world has at most new blocks (Derived/RowKit3.lean). Part the cases AHEAD of 'go_enter' where a test parts the walk; take each callee by a contract of your own. -/
theorem walk (a0 : Int) (a1 : Int) (a2 : Int) (w0 : (Lit.int .i64 a0).wf = true) (w1 : (Lit.int .i64 a1).wf = true) (w2 : (Lit.int .i64 a2).wf = true) (w : World) :
    Calls Try.prog 6 #[.int .i64 a0, .int .i64 a1, .int .i64 a2] w fun e w' => e = .returned (.bool true) ∧ Grown w w' := by
  have k1 : (addZ a0 a1 == addZ a1 a0) = true := by rw [addZ_comm]; simp
  have k2 : (mulZ a0 a1 == mulZ a1 a0) = true := by rw [mulZ_comm]; simp
  have k3 : (mulZ a0 65536 == clampZ a0) = true := by rw [mulZ_one]; simp
  by_cases c : a1 < a0
  · go_enter Try.func6, Try.ntmps6
    go_wp2_with (first | (go_at_call 19; refine (works_call _).mono ?_; rintro e w' ⟨rfl, rfl⟩) | (go_at_call 9; refine (clamp_call _ _).mono ?_; rintro e w' ⟨rfl, rfl⟩) | (go_at_call 11; refine (add_call _ _ (by first | assumption | decide) (by first | assumption | decide) _).mono ?_; rintro e w' ⟨rfl, rfl⟩) | (go_at_call 15; refine (mul_call _ _ (by first | assumption | decide) (by first | assumption | decide) _).mono ?_; rintro e w' ⟨rfl, rfl⟩) | (go_at_call 13; refine (shift_call _ _ (by first | assumption | decide) (by first | assumption | decide) _).mono ?_; rintro e w' ⟨rfl, rfl⟩))
    go_ret
    exact ⟨rfl, by repeat (first | exact Grown.refl _ | apply Grown.drew | apply Grown.alloc)⟩
  · have k4 : shiftZ a0 a2 ≤ shiftZ a1 a2 := shiftZ_mono _ _ _ (by omega)
    go_enter Try.func6, Try.ntmps6
    go_wp2_with (first | (go_at_call 19; refine (works_call _).mono ?_; rintro e w' ⟨rfl, rfl⟩) | (go_at_call 9; refine (clamp_call _ _).mono ?_; rintro e w' ⟨rfl, rfl⟩) | (go_at_call 11; refine (add_call _ _ (by first | assumption | decide) (by first | assumption | decide) _).mono ?_; rintro e w' ⟨rfl, rfl⟩) | (go_at_call 15; refine (mul_call _ _ (by first | assumption | decide) (by first | assumption | decide) _).mono ?_; rintro e w' ⟨rfl, rfl⟩) | (go_at_call 13; refine (shift_call _ _ (by first | assumption | decide) (by first | assumption | decide) _).mono ?_; rintro e w' ⟨rfl, rfl⟩))
    go_ret
    exact ⟨rfl, by repeat (first | exact Grown.refl _ | apply Grown.drew | apply Grown.alloc)⟩

/-! ### THE ROW's STEP: WRITTEN OUT: LEAVE IT -/
set_option maxRecDepth 100000 in
theorem lifted (os : Os) (started : os.Started) (H : Type) (enc : TypeId × Value → H) :
    ReturnsInHanded {} Try.checked os 6 .any (Rows.satOrderSpec.pre6 enc Try.prog Try.f6 Rows.satOrderRow.domain false) (Rows.satOrderSpec.post enc Try.prog Try.f6 false true false false) := by
  refine returnsInHanded_of_change (C := Try.checked) own started (by kernel_rfl) Try.func6
    (ChangeSpec.witness6 (enc := enc) (C := Try.checked) false ⟨#[], #[.int .i64 0, .int .i64 0, .int .i64 0], []⟩ 8 (by kernel_rfl) (by kernel_rfl) (by kernel_rfl) (by kernel_rfl)) ?_
  intro W base args ds gs before hval0 hW hcnd _
  have hval : ∀ (j : Nat) t v, Try.f6.params[j]? = some t → args[j]? = some v → Value.okWide Try.prog W .any base t v := hval0
  have hW' := hW
  obtain ⟨p, q, hA0, hV, rfl, hfz, hnd⟩ := hW
  have hA : DataW.TrodAll enc Try.prog W 0 (fun _ => true) true Try.f6.params.toList args.toList ds p := hA0
  rw [Try.params6] at hA hval
  obtain ⟨v0, vs0, d0, ds0, p0, q0, hargs, rfl, rfl, h0, r0⟩ := trodAll_cons hA
  obtain ⟨v1, vs1, d1, ds1, p1, q1, rfl, rfl, rfl, h1, r1⟩ := trodAll_cons r0
  obtain ⟨v2, vs2, d2, ds2, p2, q2, rfl, rfl, rfl, h2, r2⟩ := trodAll_cons r1
  obtain ⟨rfl, rfl, rfl⟩ := trodAll_nil r2
  obtain rfl : args = #[v0, v1, v2] := by cases args; simp_all
  obtain ⟨rfl, rfl⟩ := trodVars_none hV
  obtain ⟨a0, rfl, rfl, rfl, w0⟩ := open_int Try.underlying2 (hval 0 2 v0 rfl rfl) h0
  obtain ⟨a1, rfl, rfl, rfl, w1⟩ := open_int Try.underlying2 (hval 1 2 v1 rfl rfl) h1
  obtain ⟨a2, rfl, rfl, rfl, w2⟩ := open_int Try.underlying3 (hval 2 3 v2 rfl rfl) h2
  clear hA0 hval0
  simp only [List.append_nil] at hW'
  refine (walk a0 a1 a2 w0 w1 w2 W).mono fun e W' ⟨he, hg⟩ => ?_
  subst he
  exact ⟨_, rfl, post_of_same (pa := []) (pv := []) hW' (fun _ _ _ => (trodAll_cons_mk (shut_bool Try.underlying4 _) trodAll_mk0)) (fun sp _ => (trodAll_cons_mk (shut_int Try.underlying2 w0) (trodAll_cons_mk (shut_int Try.underlying2 w1) (trodAll_cons_mk (shut_int Try.underlying3 w2) trodAll_mk0)))) (fun _ _ => rfl) rfl
    (hg.frame _) hg.2.1 (ok_one (by kernel_rfl) rfl (okWide_bool_mk Try.underlying4 _))⟩

theorem over : Rows.satOrderRow.holds Try.pinned (OpenSpec.ofChange Rows.satOrderSpec) :=
  OpenClaim.holds_of_wide 6 Try.f6 rfl rfl rfl rfl rfl rfl rfl ⟨rfl, rfl, rfl, rfl, rfl⟩ rfl rfl rfl rfl rfl (by kernel_rfl) Try.func6 (by kernel_rfl)
    (of_decide_eq_true (by kernel_rfl)) (by unfold Func.isWrapper; first | (rw [if_pos (by decide +kernel)]; kernel_rfl) | (rw [if_neg (by decide +kernel)]; exact ⟨rfl, rfl⟩))
    (fun os started H enc _ => lifted os started H enc)

/-- ████ THE STATEMENT ████ -/
theorem proved : Rows.SatOrderSaid :=
  over
#print axioms proved
end Go.Proofs.Ytdhljgchabnnaaa.satOrder
