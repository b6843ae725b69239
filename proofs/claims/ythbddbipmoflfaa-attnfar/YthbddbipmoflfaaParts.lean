/- Of the numbers behind Soft: shares are from nought to one, together at most one, and rise with the members; no program. -/
import Derived.Test.YthbddbipmoflfaaRows
import Derived.Test.YthbddbipmoflfaaSat
import Derived.Test.YthbddbipmoflfaaExp
import Derived.Test.YthbddbipmoflfaaOrder
import Derived.Test.YthbddbipmoflfaaSoft
namespace Go.Proofs.Ythbddbipmoflfaa
open Go.ChangeShapes Go.WideShapes Go.ChangeAt Go.RowKit
set_option linter.unusedVariables false

theorem clamp_in (x : Int) (h0 : -2147483648 ≤ x) (h1 : x ≤ 2147483647) : clampZ x = x := by
  unfold clampZ
  rw [if_neg (by omega), if_neg (by omega)]

theorem share_val (E S : Int) (h0 : 0 ≤ E) (h1 : E ≤ S) (h2 : E ≤ 65536) (h3 : S ≤ 2147483647) : divZ E S = E * 65536 / S ∧ 0 ≤ E * 65536 / S ∧ E * 65536 / S ≤ 65536 := by
  unfold divZ
  rw [clamp_in S (by omega) h3, clamp_in E (by omega) (by omega)]
  by_cases z : S = 0
  · subst z
    obtain rfl : E = 0 := by omega
    decide
  · have q0 : 0 ≤ E * 65536 / S := Int.ediv_nonneg (by omega) (by omega)
    have q1 : E * 65536 / S ≤ 65536 := by
      have : E * 65536 / S < 65537 := Int.ediv_lt_of_lt_mul (by omega) (by omega)
      omega
    rw [if_neg z, Int.tdiv_eq_ediv_of_nonneg (by omega)]
    refine ⟨?_, q0, q1⟩
    generalize E * 65536 / S = Q at *
    rw [wrap64_eq, clamp_in _ (by omega) (by omega)]
    omega

theorem powE_le (z : List Int) (t : Int) (j k : Nat) (h : j < k) : powE z t j ≤ sumE z t k := by
  induction k with
  | zero => omega
  | succ k ih =>
    show powE z t j ≤ sumE z t k + powE z t k
    have p := powE_bounds z t k
    have s := sumE_bounds z t k
    by_cases e : j = k
    · subst e; omega
    · have := ih (by omega); omega

theorem sumE_mono (z : List Int) (t : Int) (k n : Nat) (h : k ≤ n) : sumE z t k ≤ sumE z t n := by
  induction n with
  | zero => obtain rfl : k = 0 := by omega
            exact Int.le_refl _
  | succ n ih =>
    by_cases e : k = n + 1
    · subst e; exact Int.le_refl _
    · have := ih (by omega)
      have p := powE_bounds z t n
      show sumE z t k ≤ sumE z t n + powE z t n
      omega

/-- the first k of a row, added -/
def sumL (l : List Int) : Nat → Int
  | 0 => 0
  | k + 1 => sumL l k + l.getD k 0

theorem soft_at (z : List Int) (n j : Nat) (h : j < n) : (softZ z n).getD j 0 = shareF z (topZ (-2147483648) z n) (sumE z (topZ (-2147483648) z n) n) j := by
  unfold softZ
  simp [List.getD, h]

theorem soft_val (z : List Int) (n j : Nat) (hn : n ≤ 1000) (h : j < n) :
    (softZ z n).getD j 0 = powE z (topZ (-2147483648) z n) j * 65536 / sumE z (topZ (-2147483648) z n) n ∧ 0 ≤ (softZ z n).getD j 0 ∧ (softZ z n).getD j 0 ≤ 65536 := by
  rw [soft_at z n j h]
  generalize topZ (-2147483648) z n = T
  have p := powE_bounds z T j
  have q := powE_le z T j n h
  have s := sumE_bounds z T n
  have v := share_val _ _ p.1 q p.2 (by omega)
  unfold shareF
  rw [v.1]
  exact ⟨rfl, v.2⟩

theorem soft_rises (z : List Int) (n i j : Nat) (hn : n ≤ 1000) (hi : i < n) (hj : j < n) (h : z.getD i 0 ≤ z.getD j 0) : (softZ z n).getD i 0 ≤ (softZ z n).getD j 0 := by
  rw [(soft_val z n i hn hi).1, (soft_val z n j hn hj).1]
  generalize topZ (-2147483648) z n = T
  have c := clampZ_rises _ _ h
  have e : powE z T i ≤ powE z T j := expZ_rises _ _ (by omega)
  have s := sumE_bounds z T n
  by_cases zr : sumE z T n = 0
  · rw [zr]; simp
  · exact Int.ediv_le_ediv (by omega) (by omega)

theorem soft_sum (z : List Int) (n k : Nat) (hn : n ≤ 1000) (h : k ≤ n) : 0 ≤ sumL (softZ z n) k ∧ sumL (softZ z n) k ≤ 65536 := by
  have key : ∀ k, k ≤ n → 0 ≤ sumL (softZ z n) k ∧ sumE z (topZ (-2147483648) z n) n * sumL (softZ z n) k ≤ 65536 * sumE z (topZ (-2147483648) z n) k := by
    intro k
    induction k with
    | zero => intro _; exact ⟨Int.le_refl _, by simp [sumL, sumE]⟩
    | succ k ih =>
      intro hk
      have i := ih (by omega)
      have v := soft_val z n k hn (by omega)
      show 0 ≤ sumL (softZ z n) k + (softZ z n).getD k 0 ∧ _ * (sumL (softZ z n) k + (softZ z n).getD k 0) ≤ 65536 * (sumE z _ k + powE z _ k)
      refine ⟨by omega, ?_⟩
      have s := sumE_bounds z (topZ (-2147483648) z n) n
      have m : sumE z (topZ (-2147483648) z n) n * (softZ z n).getD k 0 ≤ powE z (topZ (-2147483648) z n) k * 65536 := by
        rw [v.1]
        generalize sumE z (topZ (-2147483648) z n) n = S at *
        by_cases zr : S = 0
        · subst zr; have := (powE_bounds z (topZ (-2147483648) z n) k).1; omega
        · exact Int.mul_ediv_self_le zr
      rw [Int.mul_add, Int.mul_add]
      omega
  have a := key k h
  refine ⟨a.1, ?_⟩
  have m := sumE_mono z (topZ (-2147483648) z n) k n h
  have s := sumE_bounds z (topZ (-2147483648) z n) n
  by_cases zr : sumE z (topZ (-2147483648) z n) n = 0
  · have all : ∀ k, k ≤ n → sumL (softZ z n) k = 0 := by
      intro k
      induction k with
      | zero => intro _; rfl
      | succ k ih =>
        intro hk
        show sumL (softZ z n) k + (softZ z n).getD k 0 = 0
        rw [ih (by omega), (soft_val z n k hn (by omega)).1, zr]
        simp
    rw [all k h]; decide
  · have l : sumE z (topZ (-2147483648) z n) n * sumL (softZ z n) k ≤ sumE z (topZ (-2147483648) z n) n * 65536 := by omega
    exact Int.le_of_mul_le_mul_left l (by omega)

end Go.Proofs.Ythbddbipmoflfaa
