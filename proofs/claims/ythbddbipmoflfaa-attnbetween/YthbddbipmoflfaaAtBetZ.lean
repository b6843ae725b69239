/- What a head makes lies between the least and the greatest of the values, or nought. -/
import Derived.Test.YthbddbipmoflfaaRows
import Derived.Test.YthbddbipmoflfaaSat
import Derived.Test.YthbddbipmoflfaaAdds
import Derived.Test.YthbddbipmoflfaaView
import Derived.Test.YthbddbipmoflfaaOwn
import Derived.Test.YthbddbipmoflfaaExp
import Derived.Test.YthbddbipmoflfaaOrder
import Derived.Test.YthbddbipmoflfaaSoft
import Derived.Test.YthbddbipmoflfaaParts
import Derived.Test.YthbddbipmoflfaaMean
import Derived.Test.YthbddbipmoflfaaAtPlain
import Derived.Test.YthbddbipmoflfaaAtOneZ
import Derived.WalkKit
import Derived.ProofKit
import Derived.OpenShut
import Derived.Below
import Derived.WalkLawsBesides
import Derived.Deep.QuietTactic
import Derived.BigQuiet
namespace Go.Proofs.Ythbddbipmoflfaa
open Go.ChangeShapes Go.WideShapes Go.ChangeAt Go.RowKit
set_option linter.unusedVariables false
set_option linter.unusedSimpArgs false

/-- the least of nought and place j of the first k values, clamped -/
def lowZ (V : Nat → List Int) (j : Nat) : Nat → Int
  | 0 => 0
  | k + 1 => min (lowZ V j k) (clampZ ((V k).getD j 0))
def highZ (V : Nat → List Int) (j : Nat) : Nat → Int
  | 0 => 0
  | k + 1 => max (highZ V j k) (clampZ ((V k).getD j 0))

theorem low_bounds (V : Nat → List Int) (j k : Nat) : -2147483648 ≤ lowZ V j k ∧ lowZ V j k ≤ 0 ∧ 0 ≤ highZ V j k ∧ highZ V j k ≤ 2147483647 := by
  induction k with
  | zero => simp [lowZ, highZ]
  | succ k ih =>
    have c := clampZ_bounds ((V k).getD j 0)
    simp only [lowZ, highZ]
    omega

theorem mul_le (s a b : Int) (hs : 0 ≤ s) (h : a ≤ b) : s * a ≤ s * b := Int.mul_le_mul_of_nonneg_left h hs

theorem blend_between (s : List Int) (V : Nat → List Int) (j n : Nat) (hs : ∀ k, k ≤ n → 0 ≤ sumL s k ∧ sumL s k ≤ 65536) (hp : ∀ k, k < n → 0 ≤ s.getD k 0) :
    ∀ k, k ≤ n → sumL s k * lowZ V j k ≤ blendTo s V j k ∧ blendTo s V j k ≤ sumL s k * highZ V j k := by
  intro k
  induction k with
  | zero => intro _; simp [sumL, blendTo]
  | succ k ih =>
    intro hk
    have i := ih (by omega)
    have p := hp k (by omega)
    have c := clampZ_bounds ((V k).getD j 0)
    have b := low_bounds V j k
    have b' := low_bounds V j (k + 1)
    have s0 := hs k (by omega)
    have s1 := hs (k + 1) hk
    have e1 : lowZ V j (k + 1) = min (lowZ V j k) (clampZ ((V k).getD j 0)) := rfl
    have e2 : highZ V j (k + 1) = max (highZ V j k) (clampZ ((V k).getD j 0)) := rfl
    have es : sumL s (k + 1) = sumL s k + s.getD k 0 := rfl
    show sumL s (k + 1) * lowZ V j (k + 1) ≤ addZ (blendTo s V j k) (s.getD k 0 * clampZ ((V k).getD j 0)) ∧ addZ (blendTo s V j k) (s.getD k 0 * clampZ ((V k).getD j 0)) ≤ sumL s (k + 1) * highZ V j (k + 1)
    generalize lowZ V j (k + 1) = L' at *
    generalize highZ V j (k + 1) = H' at *
    generalize lowZ V j k = L at *
    generalize highZ V j k = H at *
    generalize clampZ ((V k).getD j 0) = C at *
    generalize s.getD k 0 = S at *
    generalize blendTo s V j k = B at *
    have m1 := mul_le (sumL s k) L' L s0.1 (by omega)
    have m2 := mul_le (sumL s k) H H' s0.1 (by omega)
    have m3 := mul_le S L' C p (by omega)
    have m4 := mul_le S C H' p (by omega)
    have d1 : sumL s (k + 1) * L' = sumL s k * L' + S * L' := by rw [es, Int.add_mul]
    have d2 : sumL s (k + 1) * H' = sumL s k * H' + S * H' := by rw [es, Int.add_mul]
    have r1 : -140737488355328 ≤ sumL s (k + 1) * L' := by
      have := mul_le (sumL s (k + 1)) (-2147483648) L' s1.1 (by omega)
      omega
    have r2 : sumL s (k + 1) * H' ≤ 140737488355328 := by
      have := mul_le (sumL s (k + 1)) H' 2147483647 s1.1 (by omega)
      omega
    generalize sumL s (k + 1) * L' = X1 at *
    generalize sumL s (k + 1) * H' = X2 at *
    generalize sumL s k * L' = X3 at *
    generalize sumL s k * H' = X4 at *
    generalize S * L' = X5 at *
    generalize S * H' = X6 at *
    generalize S * C = X7 at *
    generalize sumL s k * L = X8 at *
    generalize sumL s k * H = X9 at *
    rw [addZ_in _ _ (by omega) (by omega)]
    omega

theorem shift_between (B L H : Int) (h0 : 65536 * L ≤ B) (h1 : B ≤ 65536 * H) (l0 : L ≤ 0) (l1 : 0 ≤ H) (l2 : -2147483648 ≤ L) (l3 : H ≤ 2147483647) : L ≤ clampZ (shiftZ B 16) ∧ clampZ (shiftZ B 16) ≤ H := by
  have e : L ≤ shiftZ B 16 ∧ shiftZ B 16 ≤ H := by
    unfold shiftZ shN
    rw [if_neg (by decide), show min (16 : Int) 62 = 16 by decide, show ((16 : Int).toNat - 1) = 15 by decide, show ((2 : Int) ^ 15) = 32768 by decide]
    split <;> omega
  rw [clamp_in _ (by omega) (by omega)]
  exact e

theorem head_between (q : List Int) (K V : Nat → List Int) (d n j : Nat) (hn : n ≤ 50) (hj : j < d) : lowZ V j n ≤ (headZ q K V d n).getD j 0 ∧ (headZ q K V d n).getD j 0 ≤ highZ V j n := by
  have e : (headZ q K V d n).getD j 0 = blendZ (softZ (scoresZ q K d n) n) V n j := by simp [headZ, hj]
  rw [e]
  have hs := fun k (h : k ≤ n) => soft_sum (scoresZ q K d n) n k (by omega) h
  have hp : ∀ k, k < n → 0 ≤ (softZ (scoresZ q K d n) n).getD k 0 := fun k h => by
    exact (soft_val (scoresZ q K d n) n k (by omega) h).2.1
  have b := blend_between _ V j n hs hp n (Nat.le_refl _)
  have l := low_bounds V j n
  have s := hs n (Nat.le_refl _)
  unfold blendZ
  generalize blendTo (softZ (scoresZ q K d n) n) V j n = B at *
  generalize sumL (softZ (scoresZ q K d n) n) n = S at *
  have m1 : 65536 * lowZ V j n ≤ S * lowZ V j n := by
    have := Int.mul_le_mul_of_nonpos_right s.2 l.2.1
    exact this
  have m2 : S * highZ V j n ≤ 65536 * highZ V j n := Int.mul_le_mul_of_nonneg_right s.2 l.2.2.1
  exact shift_between B _ _ (by omega) (by omega) l.2.1 l.2.2.1 l.1 l.2.2.2

end Go.Proofs.Ythbddbipmoflfaa
