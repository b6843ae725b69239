/- What is chosen of scores that are the same: each place by its share. -/
import Derived.Test.YtkoifogkdbhpcaaRows
import Derived.Test.YtkoifogkdbhpcaaSat
import Derived.Test.YtkoifogkdbhpcaaArith
import Derived.Test.YtkoifogkdbhpcaaSoft
import Derived.Test.YtkoifogkdbhpcaaRanks
import Derived.Test.YtkoifogkdbhpcaaRank
import Derived.Test.YtkoifogkdbhpcaaDrZ
namespace Go.Proofs.Ytkoifogkdbhpcaa
open Go.ChangeShapes Go.WideShapes Go.ChangeAt Go.RowKit
set_option maxRecDepth 20000
set_option linter.unusedVariables false

theorem same_at (n : Nat) (v : Int) {j : Nat} (h : j < n) : (List.replicate n v).getD j 0 = v := by simp [List.getD, h]

theorem same_places (n : Nat) (v : Int) : places (List.replicate n v) = List.range n := by
  apply places_of
  rw [List.length_replicate]
  refine ⟨List.Perm.refl _, ?_⟩
  have h := List.pairwise_lt_range (n := n)
  refine List.Pairwise.imp_of_mem ?_ h
  intro i j hi hj hij
  rw [ahead_iff, same_at n v (List.mem_range.1 hi), same_at n v (List.mem_range.1 hj)]
  omega

theorem range_at {n j : Nat} (h : j < n) : (List.range n).getD j 0 = j := by simp [List.getD, h]

theorem exp_nought : expZ 0 = 65536 := by decide +kernel

theorem one_top {z : List Int} {n : Nat} {c : Int} (hz : ∀ j, j < n → z.getD j 0 = c) {k : Nat} (h0 : 0 < k) (hk : k ≤ n) : topZ (-2147483648) z k = clampZ c := by
  have b := clampZ_bounds c
  induction k with
  | zero => omega
  | succ k ih =>
    show max (topZ (-2147483648) z k) (clampZ (z.getD k 0)) = _
    rw [hz k (by omega)]
    by_cases e : k = 0
    · subst e
      show max (-2147483648) _ = _
      omega
    · rw [ih (by omega) (by omega)]
      omega

theorem one_pow {z : List Int} {n : Nat} {c : Int} (hz : ∀ j, j < n → z.getD j 0 = c) {j : Nat} (hj : j < n) : powE z (clampZ c) j = 65536 := by
  unfold powE
  rw [hz j hj, Int.sub_self]
  exact exp_nought

theorem one_sum {z : List Int} {n : Nat} {c : Int} (hz : ∀ j, j < n → z.getD j 0 = c) {k : Nat} (hk : k ≤ n) : sumE z (clampZ c) k = 65536 * (k : Int) := by
  induction k with
  | zero => rfl
  | succ k ih =>
    show sumE z (clampZ c) k + powE z (clampZ c) k = _
    rw [ih (by omega), one_pow hz (by omega)]
    omega

def partN (n : Nat) : Int := 65536 / (n : Int)

theorem part_div {n : Nat} (h2 : 2 ≤ n) (h7 : n ≤ 7) : divZ 65536 (65536 * (n : Int)) = partN n := by
  have : n = 2 ∨ n = 3 ∨ n = 4 ∨ n = 5 ∨ n = 6 ∨ n = 7 := by omega
  rcases this with h | h | h | h | h | h <;> subst h <;> decide +kernel

theorem part_bounds {n : Nat} (h2 : 2 ≤ n) (h7 : n ≤ 7) : 9362 ≤ partN n ∧ partN n ≤ 32768 := by
  have : n = 2 ∨ n = 3 ∨ n = 4 ∨ n = 5 ∨ n = 6 ∨ n = 7 := by omega
  rcases this with h | h | h | h | h | h <;> subst h <;> decide +kernel

theorem same_share {n : Nat} (h2 : 2 ≤ n) (h7 : n ≤ 7) (v h : Int) {j : Nat} (hj : j < n) : (shZ (List.replicate n v) h n).getD j 0 = partN n := by
  have hz : ∀ j, j < n → (coolZ (List.replicate n v) h n).getD j 0 = divZ v h := fun j hj => by
    unfold coolZ
    rw [getD_range _ _ _ hj]
    unfold coolF
    rw [same_places, range_at hj, same_at n v hj]
  unfold shZ softZ
  rw [getD_range _ _ _ hj, one_top hz (by omega) (Nat.le_refl _), one_sum hz (Nat.le_refl _)]
  unfold shareF
  rw [one_pow hz hj]
  exact part_div h2 h7

theorem same_upTo {n : Nat} (h2 : 2 ≤ n) (h7 : n ≤ 7) (v h : Int) {j : Nat} (hj : j ≤ n) : upTo (shZ (List.replicate n v) h n) j = (j : Int) * partN n := by
  induction j with
  | zero => simp [upTo]
  | succ j ih =>
    rw [upTo_succ, ih (by omega), same_share h2 h7 v h (by omega)]
    rw [show ((j + 1 : Nat) : Int) = (j : Int) + 1 by omega, Int.add_mul, Int.one_mul]

theorem same_many (n : Nat) (v : Int) : manyZ (List.replicate n v) (n : Int) = n := by
  unfold manyZ
  rw [List.length_replicate]
  omega

theorem choose_mod {n : Nat} (h2 : 2 ≤ n) (h7 : n ≤ 7) (v h : Int) (hh : 1 ≤ h) {i : Nat} (hi : i < n) (u : Int) (h1 : (i : Int) * partN n ≤ u % ((n : Int) * partN n)) (h3 : u % ((n : Int) * partN n) < ((i : Int) + 1) * partN n) : chooseZ (List.replicate n v) n h u = i := by
  have b := part_bounds h2 h7
  have hS : ¬(n : Int) * partN n = 0 := by
    have : 0 < (n : Int) * partN n := Int.mul_pos (by omega) (by omega)
    omega
  have hf : Fair (shZ (List.replicate n v) h n) := soft_fair _ _
  unfold chooseZ
  rw [if_neg (by omega), same_many, same_upTo h2 h7 v h (Nat.le_refl _), if_neg hS]
  rw [seat_of hf hi (by rw [same_upTo h2 h7 v h (by omega)]; exact h1) (by rw [same_upTo h2 h7 v h (by omega)]; exact h3), same_places, range_at hi]

theorem choose_edge {n : Nat} (h2 : 2 ≤ n) (h7 : n ≤ 7) (v h : Int) (hh : 1 ≤ h) {i : Nat} (hi : i < n) : chooseZ (List.replicate n v) n h ((i : Int) * partN n) = i ∧ chooseZ (List.replicate n v) n h (((i : Int) + 1) * partN n - 1) = i := by
  have b := part_bounds h2 h7
  obtain ⟨S, eS⟩ : ∃ S, partN n = S := ⟨_, rfl⟩
  have key : ∀ u, (i : Int) * partN n ≤ u → u < ((i : Int) + 1) * partN n → chooseZ (List.replicate n v) n h u = i := by
    intro u u0 u1
    have l0 : 0 ≤ (i : Int) * partN n := Int.mul_nonneg (by omega) (by omega)
    have l1 : ((i : Int) + 1) * partN n ≤ (n : Int) * partN n := Int.mul_le_mul_of_nonneg_right (by omega) (by omega)
    have em : u % ((n : Int) * partN n) = u := Int.emod_eq_of_lt (by omega) (by omega)
    exact choose_mod h2 h7 v h hh hi u (by rw [em]; exact u0) (by rw [em]; exact u1)
  have e : ((i : Int) + 1) * partN n = (i : Int) * partN n + partN n := by rw [Int.add_mul, Int.one_mul]
  exact ⟨key _ (Int.le_refl _) (by omega), key _ (by omega) (by omega)⟩

theorem choose_round {n : Nat} (h2 : 2 ≤ n) (h7 : n ≤ 7) (v h : Int) (hh : 1 ≤ h) : chooseZ (List.replicate n v) n h ((n : Int) * partN n) = 0 := by
  have b := part_bounds h2 h7
  have e := choose_mod h2 h7 v h hh (i := 0) (by omega) ((n : Int) * partN n) (by rw [Int.emod_self]; simp) (by rw [Int.emod_self]; omega)
  exact e

theorem choose_one : chooseZ [0, 0] 2 65536 0 = 0 := (choose_edge (n := 2) (by decide) (by decide) 0 65536 (by decide) (i := 0) (by decide)).1
theorem choose_two : chooseZ [0, 0] 2 65536 32768 = 1 := (choose_edge (n := 2) (by decide) (by decide) 0 65536 (by decide) (i := 1) (by decide)).1

end Go.Proofs.Ytkoifogkdbhpcaa
