/- What each of the document's answers of layer 1 gives back: contracts of the calls, whatever the world. -/
import Derived.Test.YtkoifogkdbhpcaaRows
import Derived.Test.YtkoifogkdbhpcaaSat
import Derived.WalkKit
import Derived.ProofKit
import Derived.OpenShut
import Derived.WalkLawsBesides
namespace Go.Proofs.Ytkoifogkdbhpcaa
set_option maxRecDepth 20000

open Go.ChangeShapes Go.WideShapes Go.ChangeAt Go.RowKit

set_option linter.unusedVariables false

theorem shN_62 (s : Int) : shN s 62 = (s / 2305843009213693952 + 1) / 2 := by unfold shN; rfl

theorem refClamp_call (x : Int) (w : World) :
    Calls Try.prog 39 #[.int .i64 x] w fun e w' => e = .returned (.int .i64 (clampZ x)) ∧ w' = w := by
  go_enter Try.func39, Try.ntmps39
  go_wp2
  all_goals (go_ret; refine ⟨ret_int ?_, rfl⟩; unfold clampZ; repeat' split)
  all_goals (try split at *)
  all_goals omega

theorem refShift_call (x n : Int) (hx : (Lit.int .i64 x).wf = true) (hn : (Lit.int .i64 n).wf = true) (w : World) :
    Calls Try.prog 65 #[.int .i64 x, .int .i64 n] w fun e w' => e = .returned (.int .i64 (shiftZ x n)) ∧ w' = w := by
  have bx := bounds_i64 hx
  have bn := bounds_i64 hn
  by_cases n0 : n ≤ 0
  · have e : shiftZ x n = x := by unfold shiftZ; rw [if_pos n0]
    rw [e]
    go_enter Try.func65, Try.ntmps65
    go_wp2
    all_goals go_ret
    all_goals exact ⟨rfl, rfl⟩
  · by_cases x0 : x < 0
    · have e : shiftZ x n = -(shN (-x) (min n 62)) := by unfold shiftZ; rw [if_neg n0, if_pos x0]
      rw [e]
      have e1 : -(x + 1) + 1 = -x := by omega
      by_cases n1 : 62 ≤ n
      · have em : min n 62 = 62 := by omega
        rw [em, shN_62]; clear e em
        by_cases p : -x / 2305843009213693952 % 2 = 1
        · have p' : (-x / 2305843009213693952 % 2 == 1) = true := by simp [p]
          go_enter Try.func65, Try.ntmps65
          go_wp2
          all_goals go_ret
          all_goals (refine ⟨ret_int ?_, rfl⟩; omega)
        · have p' : (-x / 2305843009213693952 % 2 == 1) = false := by simp [p]
          go_enter Try.func65, Try.ntmps65
          go_wp2
          all_goals go_ret
          all_goals (refine ⟨ret_int ?_, rfl⟩; omega)
      · have em : min n 62 = n := by omega
        rw [em]; clear e em
        have b1 := div_bounds (-x) (n.toNat - 1) (by omega)
        have b2 := div_bounds (-x) n.toNat (by omega)
        have b3 := div_step (-x) n (by omega)
        have b4 : -x / 2 ^ n.toNat ≤ 4611686018427387904 := by omega
        have B : Hid (-x / 2 ^ n.toNat = -x / 2 ^ (n.toNat - 1) / 2) := b3
        clear b3
        by_cases p : -x / 2 ^ (n.toNat - 1) % 2 = 1
        · have p' : (-x / 2 ^ (n.toNat - 1) % 2 == 1) = true := by simp [p]
          go_enter Try.func65, Try.ntmps65
          go_wp2
          all_goals go_ret
          all_goals (refine ⟨ret_int ?_, rfl⟩; have b := B.out; unfold shN; omega)
        · have p' : (-x / 2 ^ (n.toNat - 1) % 2 == 1) = false := by simp [p]
          go_enter Try.func65, Try.ntmps65
          go_wp2
          all_goals go_ret
          all_goals (refine ⟨ret_int ?_, rfl⟩; have b := B.out; unfold shN; omega)
    · have e : shiftZ x n = shN x (min n 62) := by unfold shiftZ; rw [if_neg n0, if_neg x0]
      rw [e]
      by_cases n1 : 62 ≤ n
      · have em : min n 62 = 62 := by omega
        rw [em, shN_62]; clear e em
        by_cases p : x / 2305843009213693952 % 2 = 1
        · have p' : (x / 2305843009213693952 % 2 == 1) = true := by simp [p]
          go_enter Try.func65, Try.ntmps65
          go_wp2
          all_goals go_ret
          all_goals (refine ⟨ret_int ?_, rfl⟩; omega)
        · have p' : (x / 2305843009213693952 % 2 == 1) = false := by simp [p]
          go_enter Try.func65, Try.ntmps65
          go_wp2
          all_goals go_ret
          all_goals (refine ⟨ret_int ?_, rfl⟩; omega)
      · have em : min n 62 = n := by omega
        rw [em]; clear e em
        have b1 := div_bounds x (n.toNat - 1) (by omega)
        have b2 := div_bounds x n.toNat (by omega)
        have b3 := div_step x n (by omega)
        have b4 : x / 2 ^ n.toNat ≤ 4611686018427387904 := by omega
        have B : Hid (x / 2 ^ n.toNat = x / 2 ^ (n.toNat - 1) / 2) := b3
        clear b3
        by_cases p : x / 2 ^ (n.toNat - 1) % 2 = 1
        · have p' : (x / 2 ^ (n.toNat - 1) % 2 == 1) = true := by simp [p]
          go_enter Try.func65, Try.ntmps65
          go_wp2
          all_goals go_ret
          all_goals (refine ⟨ret_int ?_, rfl⟩; have b := B.out; unfold shN; omega)
        · have p' : (x / 2 ^ (n.toNat - 1) % 2 == 1) = false := by simp [p]
          go_enter Try.func65, Try.ntmps65
          go_wp2
          all_goals go_ret
          all_goals (refine ⟨ret_int ?_, rfl⟩; have b := B.out; unfold shN; omega)

theorem refMul_call (a b : Int) (ha : (Lit.int .i64 a).wf = true) (hb : (Lit.int .i64 b).wf = true) (w : World) :
    Calls Try.prog 51 #[.int .i64 a, .int .i64 b] w fun e w' => e = .returned (.int .i64 (mulZ a b)) ∧ w' = w := by
  go_enter Try.func51, Try.ntmps51
  go_wp2_with (first | (go_at_call 39; refine (refClamp_call _ _).mono ?_; rintro e w' ⟨rfl, rfl⟩) | (go_at_call 65; refine (refShift_call _ _ (wrap64_wf _) (by decide) _).mono ?_; rintro e w' ⟨rfl, rfl⟩))
  go_ret
  exact ⟨rfl, rfl⟩

theorem refDiv_call (a b : Int) (ha : (Lit.int .i64 a).wf = true) (hb : (Lit.int .i64 b).wf = true) (w : World) :
    Calls Try.prog 26 #[.int .i64 a, .int .i64 b] w fun e w' => e = .returned (.int .i64 (divZ a b)) ∧ w' = w := by
  have ba := clampZ_bounds a
  have bb := clampZ_bounds b
  by_cases z : clampZ b = 0
  · have e : divZ a b = noughtZ (clampZ a) := by unfold divZ; rw [if_pos z]
    rw [e]; clear e
    have z' : (clampZ b == 0) = true := by simp [z]
    clear z
    go_enter Try.func26, Try.ntmps26
    go_wp2_with (first | (go_at_call 39; refine (refClamp_call _ _).mono ?_; rintro e w' ⟨rfl, rfl⟩))
    all_goals (go_ret; refine ⟨ret_int ?_, rfl⟩; unfold noughtZ; repeat' split)
    all_goals omega
  · have e : divZ a b = clampZ (wrap64 ((clampZ a * 65536).tdiv (clampZ b))) := by unfold divZ; rw [if_neg z]
    rw [e]; clear e
    have z' : (clampZ b == 0) = false := by simp [z]
    go_enter Try.func26, Try.ntmps26
    go_wp2_with (first | (go_at_call 39; refine (refClamp_call _ _).mono ?_; rintro e w' ⟨rfl, rfl⟩))
    go_ret
    exact ⟨rfl, rfl⟩

end Go.Proofs.Ytkoifogkdbhpcaa
