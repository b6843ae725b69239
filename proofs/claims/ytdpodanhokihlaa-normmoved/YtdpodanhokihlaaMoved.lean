/- Of the numbers behind Soft and Mean: the same number more for all members changes no share; the mean of one row, however often it stands; no program. -/
import Derived.Test.YtdpodanhokihlaaRows
import Derived.Test.YtdpodanhokihlaaSat
import Derived.Test.YtdpodanhokihlaaAdds
import Derived.Test.YtdpodanhokihlaaExp
import Derived.Test.YtdpodanhokihlaaSoft
import Derived.Test.YtdpodanhokihlaaSoftRef
import Derived.Test.YtdpodanhokihlaaMean
namespace Go.Proofs.Ytdpodanhokihlaa
open Go.ChangeShapes Go.WideShapes Go.ChangeAt Go.RowKit
set_option linter.unusedVariables false

theorem topZ_moved (b d : Int) (u v : List Int) (n : Nat) (h : ∀ j, j < n → clampZ (v.getD j 0) = clampZ (u.getD j 0) + d) : topZ (b + d) v n = topZ b u n + d := by
  induction n with
  | zero => rfl
  | succ n ih =>
    show max (topZ (b + d) v n) (clampZ (v.getD n 0)) = max (topZ b u n) (clampZ (u.getD n 0)) + d
    rw [ih (fun j hj => h j (by omega)), h n (by omega)]
    omega

theorem soft_shifted (d : Int) (u v : List Int) (n : Nat) (h : ∀ j, j < n → clampZ (v.getD j 0) = clampZ (u.getD j 0) + d) (hd : d ≤ 1073741824) : softZ v n = softZ u n := by
  by_cases hn : 0 < n
  · have t := topZ_moved (-3221225472) d u v n h
    rw [topZ_same (-3221225472) u (by decide) n hn, topZ_same (-3221225472 + d) v (by omega) n hn] at t
    unfold softZ
    rw [t]
    generalize topZ (-2147483648) u n = T
    have p : ∀ j, j < n → powE v (T + d) j = powE u T j := fun j hj => by
      unfold powE
      rw [h j hj]
      congr 1
      omega
    have s : ∀ k, k ≤ n → sumE v (T + d) k = sumE u T k := by
      intro k
      induction k with
      | zero => intro _; rfl
      | succ k ih =>
        intro hk
        show sumE v (T + d) k + powE v (T + d) k = sumE u T k + powE u T k
        rw [ih (by omega), p k (by omega)]
    rw [s n (Nat.le_refl _)]
    refine List.map_congr_left fun j hj => ?_
    unfold shareF
    rw [p j (List.mem_range.1 hj)]
  · obtain rfl : n = 0 := by omega
    simp only [softZ, List.range_zero, List.map_nil]

def partF (z : List Int) (j : Nat) : Int := (z.getD j 0).tmod 1073741824
def moreF (z : List Int) (d : Int) (j : Nat) : Int := partF z j + d
def clampF (z : List Int) (j : Nat) : Int := clampZ (z.getD j 0)

theorem part_bounds (x : Int) : -1073741824 < x.tmod 1073741824 ∧ x.tmod 1073741824 < 1073741824 := by
  rw [Int.tmod_eq_emod]
  split <;> omega

theorem range_at (F : Nat → Int) (n j : Nat) (h : j < n) : ((List.range n).map F).getD j 0 = F j := by
  simp [List.getD, h]

theorem soft_more (z : List Int) (n : Nat) (d : Int) (h0 : -1073741824 < d) (h1 : d < 1073741824) : softZ ((List.range n).map (moreF z d)) n = softZ ((List.range n).map (partF z)) n := by
  refine soft_shifted d _ _ n (fun j hj => ?_) (by omega)
  rw [range_at _ _ _ hj, range_at _ _ _ hj]
  have b := part_bounds (z.getD j 0)
  unfold moreF partF
  generalize (z.getD j 0).tmod 1073741824 = v at *
  unfold clampZ
  repeat' split
  all_goals omega

theorem col_same (z : List Int) (j k : Nat) (hk : k ≤ 20) : colZ (fun _ => z) j k = (k : Int) * clampZ (z.getD j 0) := by
  induction k with
  | zero => simp [colZ]
  | succ k ih =>
    show addZ (colZ (fun _ => z) j k) (clampZ (z.getD j 0)) = _
    rw [ih (by omega)]
    have c := clampZ_bounds (z.getD j 0)
    generalize clampZ (z.getD j 0) = C at *
    have e : ((k + 1 : Nat) : Int) * C = (k : Int) * C + C := by rw [Int.natCast_add, Int.add_mul]; omega
    rw [e]
    have b : ((k : Int) * C).natAbs ≤ 20 * 2147483648 := by
      rw [Int.natAbs_mul]
      exact Nat.mul_le_mul (by omega) (by omega)
    unfold addZ
    rw [if_neg (by omega), if_neg (by omega)]

theorem mean_same (z : List Int) (M j : Nat) (hM : M < 20) : meanF (fun _ => z) (M + 1) j = clampF z j := by
  unfold meanF clampF
  rw [col_same z j (M + 1) (by omega), Int.mul_tdiv_cancel_left _ (by omega)]
  have c := clampZ_bounds (z.getD j 0)
  generalize clampZ (z.getD j 0) = C at *
  unfold clampZ
  rw [if_neg (by omega), if_neg (by omega)]

end Go.Proofs.Ytdpodanhokihlaa
