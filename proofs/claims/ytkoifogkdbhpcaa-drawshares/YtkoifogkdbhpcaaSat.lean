/- What each function of package sat gives back: contracts of the calls, whatever the world. -/
import Derived.Test.YtkoifogkdbhpcaaRows
import Derived.WalkKit
import Derived.ProofKit
import Derived.OpenShut
import Derived.WalkLawsBesides
namespace Go.Proofs.Ytkoifogkdbhpcaa
set_option maxRecDepth 20000

open Go.ChangeShapes Go.WideShapes Go.ChangeAt Go.RowKit

set_option linter.unusedVariables false

def clampZ (x : Int) : Int := if x < -2147483648 then -2147483648 else if 2147483647 < x then 2147483647 else x

theorem ret_int {k : IntKind} {a b : Int} (h : a = b) : Ending.returned (.int k a) = .returned (.int k b) := by rw [h]

theorem wrap64_eq (n : Int) : wrap64 n = (n + 9223372036854775808) % 18446744073709551616 - 9223372036854775808 := by unfold wrap64; rfl

theorem clamp_call (x : Int) (w : World) :
    Calls Try.prog 37 #[.int .i64 x] w fun e w' => e = .returned (.int .i64 (clampZ x)) ∧ w' = w := by
  go_enter Try.func37, Try.ntmps37
  go_wp2
  all_goals (go_ret; refine ⟨ret_int ?_, rfl⟩; unfold clampZ; repeat' split)
  all_goals omega

def shN (s n : Int) : Int := (s / 2 ^ (n.toNat - 1) + 1) / 2

def shiftZ (x n : Int) : Int := if n ≤ 0 then x else if x < 0 then -(shN (-x) (min n 62)) else shN x (min n 62)

theorem pow_step (n : Int) (hn : 1 ≤ n) : (2 : Int) ^ n.toNat = 2 ^ (n.toNat - 1) * 2 := by
  have e : n.toNat = (n.toNat - 1) + 1 := by omega
  rw [e, Int.pow_succ, ← e]

theorem div_step (s n : Int) (hn : 1 ≤ n) : s / 2 ^ n.toNat = s / 2 ^ (n.toNat - 1) / 2 := by
  rw [pow_step n hn, Int.ediv_ediv_of_nonneg (Int.le_of_lt (Int.pow_pos (by decide)))]

theorem div_bounds (s : Int) (k : Nat) (h : 0 ≤ s) : 0 ≤ s / 2 ^ k ∧ s / 2 ^ k ≤ s :=
  ⟨Int.ediv_nonneg h (Int.le_of_lt (Int.pow_pos (by decide))), Int.ediv_le_self _ h⟩

theorem u64_wrap_eq (n : Int) (h0 : 0 ≤ n) (h1 : n ≤ 18446744073709551615) : IntKind.u64.wrap n = n := by
  rw [IntKind.wrap_u64]; omega

theorem shiftSize_call (s n : Int) (hs : (Lit.int .u64 s).wf = true) (hn : 1 ≤ n ∧ n ≤ 62) (w : World) :
    Calls Try.prog 71 #[.int .u64 s, .int .i64 n] w fun e w' => e = .returned (.int .u64 (shN s n)) ∧ w' = w := by
  have bs := bounds_u64 hs
  go_enter Try.func71, Try.ntmps71
  go_wp2
  all_goals (go_ret; refine ⟨ret_int ?_, rfl⟩)
  have b1 := div_bounds s (n.toNat - 1) bs.1
  rw [and_one_u64 _ b1.1 (by omega), div_step s n hn.1, u64_wrap_eq _ (by omega) (by omega)]
  unfold shN
  omega

theorem shN_bounds (s n : Int) (hs : 0 ≤ s) (h1 : s ≤ 9223372036854775808) (hn : 1 ≤ n) : 0 ≤ shN s n ∧ shN s n ≤ 4611686018427387904 + 1 := by
  have b1 := div_bounds s (n.toNat - 1) hs
  unfold shN
  omega

theorem neg_u64 (x : Int) (h0 : -9223372036854775808 ≤ x) (h1 : x < 0) : IntKind.u64.wrap (-IntKind.u64.wrap x) = -x := by
  rw [IntKind.wrap_u64, IntKind.wrap_u64]; omega

theorem wf_u64_of {n : Int} (h0 : 0 ≤ n) (h1 : n ≤ 18446744073709551615) : (Lit.int .u64 n).wf = true := WalkArith.wf_u64 ⟨h0, h1⟩

theorem shift_call (x n : Int) (hx : (Lit.int .i64 x).wf = true) (hn : (Lit.int .i64 n).wf = true) (w : World) :
    Calls Try.prog 64 #[.int .i64 x, .int .i64 n] w fun e w' => e = .returned (.int .i64 (shiftZ x n)) ∧ w' = w := by
  have bx := bounds_i64 hx
  by_cases n0 : n ≤ 0
  · have e : shiftZ x n = x := by unfold shiftZ; rw [if_pos n0]
    rw [e]
    go_enter Try.func64, Try.ntmps64
    go_wp2
    go_ret
    exact ⟨rfl, rfl⟩
  · by_cases x0 : x < 0
    · have e : shiftZ x n = -(shN (-x) (min n 62)) := by unfold shiftZ; rw [if_neg n0, if_pos x0]
      rw [e]
      have en := neg_u64 x bx.1 x0
      by_cases n1 : 62 < n
      · have em : min n 62 = 62 := by omega
        rw [em]; clear e em
        have bb := shN_bounds (-x) 62 (by omega) (by omega) (by omega)
        have wfx : (Lit.int .u64 (-x)).wf = true := wf_u64_of (by omega) (by omega)
        go_enter Try.func64, Try.ntmps64
        go_wp2_with (go_at_call 71; refine (shiftSize_call _ _ wfx (by omega) _).mono ?_; rintro e w' ⟨rfl, rfl⟩)
        go_ret
        exact ⟨rfl, rfl⟩
      · have em : min n 62 = n := by omega
        rw [em]; clear e em
        have bb := shN_bounds (-x) n (by omega) (by omega) (by omega)
        have wfx : (Lit.int .u64 (-x)).wf = true := wf_u64_of (by omega) (by omega)
        go_enter Try.func64, Try.ntmps64
        go_wp2_with (go_at_call 71; refine (shiftSize_call _ _ wfx (by omega) _).mono ?_; rintro e w' ⟨rfl, rfl⟩)
        go_ret
        exact ⟨rfl, rfl⟩
    · have e : shiftZ x n = shN x (min n 62) := by unfold shiftZ; rw [if_neg n0, if_neg x0]
      rw [e]
      have wfx : (Lit.int .u64 x).wf = true := wf_u64_of (by omega) (by omega)
      by_cases n1 : 62 < n
      · have em : min n 62 = 62 := by omega
        rw [em]; clear e em
        have bb := shN_bounds x 62 (by omega) (by omega) (by omega)
        go_enter Try.func64, Try.ntmps64
        go_wp2_with (go_at_call 71; refine (shiftSize_call _ _ wfx (by omega) _).mono ?_; rintro e w' ⟨rfl, rfl⟩)
        go_ret
        exact ⟨rfl, rfl⟩
      · have em : min n 62 = n := by omega
        rw [em]; clear e em
        have bb := shN_bounds x n (by omega) (by omega) (by omega)
        go_enter Try.func64, Try.ntmps64
        go_wp2_with (go_at_call 71; refine (shiftSize_call _ _ wfx (by omega) _).mono ?_; rintro e w' ⟨rfl, rfl⟩)
        go_ret
        exact ⟨rfl, rfl⟩

theorem wf_clampZ (x : Int) : (Lit.int .i64 (clampZ x)).wf = true := by
  refine WalkArith.wf_i64 ?_
  unfold clampZ
  repeat' split
  all_goals omega

def mulZ (a b : Int) : Int := clampZ (shiftZ (wrap64 (clampZ a * clampZ b)) 16)

theorem mul_call (a b : Int) (ha : (Lit.int .i64 a).wf = true) (hb : (Lit.int .i64 b).wf = true) (w : World) :
    Calls Try.prog 48 #[.int .i64 a, .int .i64 b] w fun e w' => e = .returned (.int .i64 (mulZ a b)) ∧ w' = w := by
  go_enter Try.func48, Try.ntmps48
  go_wp2_with (first | (go_at_call 37; refine (clamp_call _ _).mono ?_; rintro e w' ⟨rfl, rfl⟩) | (go_at_call 64; refine (shift_call _ _ (wrap64_wf _) (by decide) _).mono ?_; rintro e w' ⟨rfl, rfl⟩))
  go_ret
  exact ⟨rfl, rfl⟩

theorem clampZ_bounds (x : Int) : -2147483648 ≤ clampZ x ∧ clampZ x ≤ 2147483647 := by
  unfold clampZ
  repeat' split
  all_goals omega

def noughtZ (a : Int) : Int := if 0 < a then 2147483647 else if a < 0 then -2147483648 else 0

theorem nought_call (a : Int) (w : World) :
    Calls Try.prog 50 #[.int .i64 a] w fun e w' => e = .returned (.int .i64 (noughtZ a)) ∧ w' = w := by
  go_enter Try.func50, Try.ntmps50
  go_wp2
  all_goals (go_ret; refine ⟨ret_int ?_, rfl⟩; unfold noughtZ; repeat' split)
  all_goals omega

def divZ (a b : Int) : Int := if clampZ b = 0 then noughtZ (clampZ a) else clampZ (wrap64 ((clampZ a * 65536).tdiv (clampZ b)))

theorem div_call (a b : Int) (ha : (Lit.int .i64 a).wf = true) (hb : (Lit.int .i64 b).wf = true) (w : World) :
    Calls Try.prog 38 #[.int .i64 a, .int .i64 b] w fun e w' => e = .returned (.int .i64 (divZ a b)) ∧ w' = w := by
  have ba := clampZ_bounds a
  have bb := clampZ_bounds b
  by_cases z : clampZ b = 0
  · have e : divZ a b = noughtZ (clampZ a) := by unfold divZ; rw [if_pos z]
    rw [e]; clear e
    have z' : (clampZ b == 0) = true := by simp [z]
    clear z
    go_enter Try.func38, Try.ntmps38
    go_wp2_with (first | (go_at_call 37; refine (clamp_call _ _).mono ?_; rintro e w' ⟨rfl, rfl⟩) | (go_at_call 50; refine (nought_call _ _).mono ?_; rintro e w' ⟨rfl, rfl⟩))
    go_ret
    exact ⟨rfl, rfl⟩
  · have e : divZ a b = clampZ (wrap64 ((clampZ a * 65536).tdiv (clampZ b))) := by unfold divZ; rw [if_neg z]
    rw [e]; clear e
    have z' : (clampZ b == 0) = false := by simp [z]
    go_enter Try.func38, Try.ntmps38
    go_wp2_with (first | (go_at_call 37; refine (clamp_call _ _).mono ?_; rintro e w' ⟨rfl, rfl⟩) | (go_at_call 50; refine (nought_call _ _).mono ?_; rintro e w' ⟨rfl, rfl⟩))
    go_ret
    exact ⟨rfl, rfl⟩

end Go.Proofs.Ytkoifogkdbhpcaa
