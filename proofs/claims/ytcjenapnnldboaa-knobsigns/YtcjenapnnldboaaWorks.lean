/- What Float, the document's Same, Less and Float, Go's NaN, Inf and Copysign, and the statements' own trial 'works' give back: contracts of the calls, whatever the world. -/
import Derived.Test.YtcjenapnnldboaaFixes
namespace Go.Proofs.Ytcjenapnnldboaa
open Go.ChangeShapes Go.WideShapes Go.ChangeAt Go.RowKit
set_option linter.unusedVariables false

/-! ### Signs -/
theorem sg_of_neg {x : Nat} (h : K x < 0) : sg x = true := by
  unfold K at h
  split at h
  · assumption
  · omega
theorem sg_of_pos {x : Nat} (h : 0 < K x) : sg x = false := by
  unfold K at h
  split at h
  · omega
  · rename_i g; simpa using g

/-! ### The document's Same and Less -/
theorem rank_of {x : Nat} (nx : isN x = false) : rankZ x = if K x < 0 then 1 else if 0 < K x then 4 else if sg x then 2 else 3 := by
  unfold rankZ; rw [nx]; rfl
theorem rank_nan {x : Nat} (nx : isN x = true) : rankZ x = 0 := by
  unfold rankZ; rw [nx]; rfl

theorem rank_cases {x : Nat} (nx : isN x = false) :
    (rankZ x = 1 ∧ K x < 0 ∧ sg x = true) ∨ (rankZ x = 4 ∧ 0 < K x ∧ sg x = false) ∨ (rankZ x = 2 ∧ K x = 0 ∧ sg x = true) ∨ (rankZ x = 3 ∧ K x = 0 ∧ sg x = false) := by
  rw [rank_of nx]
  by_cases h1 : K x < 0
  · left; rw [if_pos h1]; exact ⟨rfl, h1, sg_of_neg h1⟩
  · right
    rw [if_neg h1]
    by_cases h2 : 0 < K x
    · left; rw [if_pos h2]; exact ⟨rfl, h2, sg_of_pos h2⟩
    · right
      rw [if_neg h2]
      cases sg x
      · right; exact ⟨rfl, by omega, rfl⟩
      · left; exact ⟨rfl, by omega, rfl⟩

theorem same_rank {a b : Nat} (na : isN a = false) (nb : isN b = false) (h : rankZ a = rankZ b) : sameB a b = decide (K a = K b) := by
  unfold sameB
  rw [na, nb]
  have : sg a = sg b := by
    rcases rank_cases na with ⟨h1, _, h3⟩ | ⟨h1, _, h3⟩ | ⟨h1, _, h3⟩ | ⟨h1, _, h3⟩ <;> rcases rank_cases nb with ⟨g1, _, g3⟩ | ⟨g1, _, g3⟩ | ⟨g1, _, g3⟩ | ⟨g1, _, g3⟩ <;> first | (exfalso; omega) | (rw [h3, g3])
  rw [this]
  simp

theorem other_rank {a b : Nat} (na : isN a = false) (nb : isN b = false) (h : rankZ a ≠ rankZ b) : sameB a b = false := by
  unfold sameB
  rw [na, nb]
  rcases rank_cases na with ⟨h1, h2, h3⟩ | ⟨h1, h2, h3⟩ | ⟨h1, h2, h3⟩ | ⟨h1, h2, h3⟩ <;> rcases rank_cases nb with ⟨g1, g2, g3⟩ | ⟨g1, g2, g3⟩ | ⟨g1, g2, g3⟩ | ⟨g1, g2, g3⟩ <;> first | (exfalso; omega) | (rw [h3, g3]; simp; done) | (rw [decide_eq_false (by omega)]; simp; done)

theorem less_rank {a b : Nat} (na : isN a = false) (nb : isN b = false) : lessB a b = (decide (rankZ a < rankZ b) || (decide (rankZ a = rankZ b) && decide (K a < K b))) := by
  unfold lessB
  rw [na, nb, if_neg (by decide)]
  rcases rank_cases na with ⟨h1, h2, h3⟩ | ⟨h1, h2, h3⟩ | ⟨h1, h2, h3⟩ | ⟨h1, h2, h3⟩ <;> rcases rank_cases nb with ⟨g1, g2, g3⟩ | ⟨g1, g2, g3⟩ | ⟨g1, g2, g3⟩ | ⟨g1, g2, g3⟩ <;> rw [h1, g1, h3, g3] <;> by_cases k : K a = K b <;> by_cases l : K a < K b <;> first | (exfalso; omega) | (simp [k, l]; done) | (simp [k]; done) | (simp [l]; done)

theorem refSame_call (a b : Nat) (ha : (Lit.float .f64 a).wf = true) (hb : (Lit.float .f64 b).wf = true) (w : World) :
    Calls Try.prog 15 #[.float .f64 a, .float .f64 b] w fun e w' => e = .returned (.bool (sameB a b)) ∧ w' = w := by
  have hs := cmp_self_ne a
  cases na : isN a
  · rw [na] at hs
    cases nb : isN b
    · have hq := cmp_eq na nb
      by_cases k : rankZ a = rankZ b
      · rw [same_rank na nb k]
        have k' : (rankZ a == rankZ b) = true := by simp [k]
        clear k
        go_enter Try.func15, Try.ntmps15
        go_wp2_with (go_at_call 25; refine (rank_call _ (by assumption) _).mono ?_; rintro e w' ⟨rfl, rfl⟩)
        all_goals (go_ret; exact ⟨rfl, rfl⟩)
      · rw [other_rank na nb k]
        have k' : (rankZ a == rankZ b) = false := by simp [k]
        clear k
        go_enter Try.func15, Try.ntmps15
        go_wp2_with (go_at_call 25; refine (rank_call _ (by assumption) _).mono ?_; rintro e w' ⟨rfl, rfl⟩)
        all_goals (go_ret; exact ⟨rfl, rfl⟩)
    · have e : sameB a b = false := by unfold sameB; rw [na, nb]; rfl
      have k' : (rankZ a == rankZ b) = false := by
        rw [rank_nan nb, beq_eq_false_iff_ne]
        have := rank_cases na
        omega
      rw [e]
      go_enter Try.func15, Try.ntmps15
      go_wp2_with (go_at_call 25; refine (rank_call _ (by assumption) _).mono ?_; rintro e w' ⟨rfl, rfl⟩)
      all_goals (go_ret; exact ⟨rfl, rfl⟩)
  · rw [na] at hs
    cases nb : isN b
    · have e : sameB a b = false := by unfold sameB; rw [na, nb]; rfl
      have k' : (rankZ a == rankZ b) = false := by
        rw [rank_nan na, beq_eq_false_iff_ne]
        have := rank_cases nb
        omega
      rw [e]
      go_enter Try.func15, Try.ntmps15
      go_wp2_with (go_at_call 25; refine (rank_call _ (by assumption) _).mono ?_; rintro e w' ⟨rfl, rfl⟩)
      all_goals (go_ret; exact ⟨rfl, rfl⟩)
    · have e : sameB a b = true := by unfold sameB; rw [na, nb]; rfl
      have k' : (rankZ a == rankZ b) = true := by rw [rank_nan na, rank_nan nb]; rfl
      rw [e]
      go_enter Try.func15, Try.ntmps15
      go_wp2_with (go_at_call 25; refine (rank_call _ (by assumption) _).mono ?_; rintro e w' ⟨rfl, rfl⟩)
      all_goals (go_ret; exact ⟨rfl, rfl⟩)

theorem refLess_call (a b : Nat) (ha : (Lit.float .f64 a).wf = true) (hb : (Lit.float .f64 b).wf = true) (w : World) :
    Calls Try.prog 17 #[.float .f64 a, .float .f64 b] w fun e w' => e = .returned (.bool (lessB a b)) ∧ w' = w := by
  have main : ∀ (l q : Bool), decide (rankZ a < rankZ b) = l → (rankZ a == rankZ b) = q → lessB a b = (l || (q && (FloatKind.f64.format.order a b == some .lt))) →
      Calls Try.prog 17 #[.float .f64 a, .float .f64 b] w fun e w' => e = .returned (.bool (lessB a b)) ∧ w' = w := by
    intro l q el eq e
    rw [e]
    cases l <;> cases q
    all_goals go_enter Try.func17, Try.ntmps17
    all_goals go_wp2_with (go_at_call 25; refine (rank_call _ (by assumption) _).mono ?_; rintro e w' ⟨rfl, rfl⟩)
    all_goals (go_ret; exact ⟨rfl, rfl⟩)
  refine main _ _ rfl rfl ?_
  have ebq : ∀ x y : Int, (x == y) = decide (x = y) := by
    intro x y
    by_cases h : x = y <;> simp [h]
  rw [ebq]
  cases na : isN a
  · cases nb : isN b
    · rw [less_rank na nb, cmp_lt na nb]
    · have e : lessB a b = false := by unfold lessB; rw [na, nb]; rfl
      have := rank_cases na
      rw [e, rank_nan nb, decide_eq_false (by omega), decide_eq_false (by omega)]; rfl
  · cases nb : isN b
    · have e : lessB a b = true := by unfold lessB; rw [na, nb]; rfl
      have := rank_cases nb
      rw [e, rank_nan na, decide_eq_true (by omega)]; rfl
    · have e : lessB a b = false := by unfold lessB; rw [na, nb]; rfl
      rw [e, rank_nan na, rank_nan nb, f64_order, order_nan_left na]; rfl

/-! ### Float -/
def clampZ (n : Int) : Int := max (-2147483648) (min n 2147483647)
def floatB (n : Int) : Nat := (FloatKind.f64.format.div (floatOfInt .f64 (clampZ n)) 4679240012837945344).getD 0

theorem clampZ_bounds (n : Int) : -2147483648 ≤ clampZ n ∧ clampZ n ≤ 2147483647 := by unfold clampZ; omega

theorem floatB_spec (n : Int) : FloatKind.f64.format.div (floatOfInt .f64 (clampZ n)) 4679240012837945344 = some (floatB n) ∧ Fin64 (floatB n) ∧ 65536 * K (floatB n) = clampZ n * (UN : Int) := by
  have b := clampZ_bounds n
  obtain ⟨r, e, f, k⟩ := div_exact (clampZ n) (by omega)
  have : floatB n = r := by unfold floatB; rw [e]; rfl
  rw [this]
  exact ⟨e, f, k⟩

theorem floatB_wf (n : Int) : (Lit.float .f64 (floatB n)).wf = true := floatBits_wf (op := .quo) (floatB_spec n).1

theorem float_call (n : Int) (w : World) :
    Calls Try.prog 11 #[.int .i64 n] w fun e w' => e = .returned (.float .f64 (floatB n)) ∧ w' = w := by
  have e := (floatB_spec n).1
  have hd : ∀ t w, (binOp .quo t (.float .f64 (floatOfInt .f64 (clampZ n))) (.float .f64 4679240012837945344)).run Try.prog w = .ok (.float .f64 (floatB n)) w := fun t w => run_float_arith w .quo t .f64 _ _ _ e
  clear e
  have h : n < -2147483648 ∨ n = -2147483648 ∨ (-2147483648 < n ∧ n < 2147483647) ∨ n = 2147483647 ∨ 2147483647 < n := by omega
  rcases h with h | h | h | h | h
  · rw [show clampZ n = -2147483648 by unfold clampZ; omega] at hd
    go_enter Try.func11, Try.ntmps11
    go_wp2
    all_goals (go_ret; exact ⟨rfl, rfl⟩)
  · subst h
    rw [show clampZ (-2147483648) = -2147483648 by decide] at hd
    go_enter Try.func11, Try.ntmps11
    go_wp2
    all_goals (go_ret; exact ⟨rfl, rfl⟩)
  · rw [show clampZ n = n by unfold clampZ; omega] at hd
    go_enter Try.func11, Try.ntmps11
    go_wp2
    all_goals (go_ret; exact ⟨rfl, rfl⟩)
  · subst h
    rw [show clampZ (2147483647) = 2147483647 by decide] at hd
    go_enter Try.func11, Try.ntmps11
    go_wp2
    all_goals (go_ret; exact ⟨rfl, rfl⟩)
  · rw [show clampZ n = 2147483647 by unfold clampZ; omega] at hd
    go_enter Try.func11, Try.ntmps11
    go_wp2
    all_goals (go_ret; exact ⟨rfl, rfl⟩)

theorem refFloat_call (n : Int) (w : World) :
    Calls Try.prog 12 #[.int .i64 n] w fun e w' => e = .returned (.float .f64 (floatB n)) ∧ w' = w := by
  have e := (floatB_spec n).1
  have hd : ∀ t w, (binOp .quo t (.float .f64 (floatOfInt .f64 (clampZ n))) (.float .f64 4679240012837945344)).run Try.prog w = .ok (.float .f64 (floatB n)) w := fun t w => run_float_arith w .quo t .f64 _ _ _ e
  clear e
  have h : n < -2147483648 ∨ n = -2147483648 ∨ (-2147483648 < n ∧ n < 2147483647) ∨ n = 2147483647 ∨ 2147483647 < n := by omega
  rcases h with h | h | h | h | h
  · rw [show clampZ n = -2147483648 by unfold clampZ; omega] at hd
    go_enter Try.func12, Try.ntmps12
    go_wp2
    all_goals (go_ret; exact ⟨rfl, rfl⟩)
  · subst h
    rw [show clampZ (-2147483648) = -2147483648 by decide] at hd
    go_enter Try.func12, Try.ntmps12
    go_wp2
    all_goals (go_ret; exact ⟨rfl, rfl⟩)
  · rw [show clampZ n = n by unfold clampZ; omega] at hd
    go_enter Try.func12, Try.ntmps12
    go_wp2
    all_goals (go_ret; exact ⟨rfl, rfl⟩)
  · subst h
    rw [show clampZ (2147483647) = 2147483647 by decide] at hd
    go_enter Try.func12, Try.ntmps12
    go_wp2
    all_goals (go_ret; exact ⟨rfl, rfl⟩)
  · rw [show clampZ n = 2147483647 by unfold clampZ; omega] at hd
    go_enter Try.func12, Try.ntmps12
    go_wp2
    all_goals (go_ret; exact ⟨rfl, rfl⟩)

/-! ### NaN, Inf, Copysign -/
theorem nan_call (w : World) : Calls Try.prog 20 #[] w fun e w' => e = .returned (.float .f64 9221120237041090561) ∧ w' = w := by
  have hb := frombits_run 9221120237041090561
  go_enter Try.func20, Try.ntmps20
  go_wp2
  all_goals (go_ret; exact ⟨rfl, rfl⟩)

theorem inf_call (w : World) : Calls Try.prog 21 #[.int .i64 1] w fun e w' => e = .returned (.float .f64 9218868437227405312) ∧ w' = w := by
  have hb := frombits_run 9218868437227405312
  go_enter Try.func21, Try.ntmps21
  go_wp2
  all_goals (go_ret; exact ⟨rfl, rfl⟩)

theorem minf_call (w : World) : Calls Try.prog 21 #[.int .i64 (-1)] w fun e w' => e = .returned (.float .f64 18442240474082181120) ∧ w' = w := by
  have hb := frombits_run 18442240474082181120
  go_enter Try.func21, Try.ntmps21
  go_wp2
  all_goals (go_ret; exact ⟨rfl, rfl⟩)

theorem copysign_call (w : World) : Calls Try.prog 26 #[.float .f64 0, .float .f64 13830554455654793216] w fun e w' => e = .returned (.float .f64 9223372036854775808) ∧ w' = w := by
  have hb1 := bits_run 0
  have hb2 := bits_run 13830554455654793216
  have hb3 := frombits_run 9223372036854775808
  have e1 : bits BinOp.andNot IntKind.u64 0 9223372036854775808 = 0 := by decide
  have e2 : bits BinOp.and IntKind.u64 13830554455654793216 9223372036854775808 = 9223372036854775808 := by decide +kernel
  have e3 : bits BinOp.or IntKind.u64 0 9223372036854775808 = 9223372036854775808 := by decide +kernel
  go_enter Try.func26, Try.ntmps26
  go_wp2
  all_goals (go_ret; exact ⟨rfl, rfl⟩)

/-! ### The trial -/
theorem works_call (w : World) : Calls Try.prog 18 #[] w fun e w' => e = .returned (.bool true) ∧ w' = w := by
  have k1 : fixN 4602678819172646912 = 32768 := by decide +kernel
  have k2 : fixE 4602678819172646912 = 0 := by decide +kernel
  have k3 : fixN 4540754324296302592 = 2 := by decide +kernel
  have k4 : fixN 9218868437227405312 = 2147483647 := by decide +kernel
  have k5 : fixE 9218868437227405312 = 0 := by decide +kernel
  have k6 : fixE 9221120237041090561 = 28 := by decide +kernel
  have k7 : lessB 9223372036854775808 0 = true := by decide +kernel
  have k8 : sameB 9223372036854775808 0 = false := by decide +kernel
  have k9 : sameB 9221120237041090561 9221120237041090561 = true := by decide +kernel
  go_enter Try.func18, Try.ntmps18
  go_wp2_with (first | (go_at_call 9; refine (fix_call _ _).mono ?_; rintro e w' ⟨rfl, rfl⟩) | (go_at_call 20; refine (nan_call _).mono ?_; rintro e w' ⟨rfl, rfl⟩) | (go_at_call 21; refine (inf_call _).mono ?_; rintro e w' ⟨rfl, rfl⟩) | (go_at_call 26; refine (copysign_call _).mono ?_; rintro e w' ⟨rfl, rfl⟩) | (go_at_call 16; refine (less_call _ _ (by decide) (by decide) _).mono ?_; rintro e w' ⟨rfl, rfl⟩) | (go_at_call 14; refine (same_call _ _ (by decide) (by decide) _).mono ?_; rintro e w' ⟨rfl, rfl⟩))
  all_goals go_ret
  all_goals exact ⟨rfl, rfl⟩

end Go.Proofs.Ytcjenapnnldboaa
