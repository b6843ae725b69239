/- Of the numbers behind package curve: where numbers rise, powers do not fall, and one divided by the root does not rise; no program. -/
import Derived.Test.YthbddbipmoflfaaRows
import Derived.Test.YthbddbipmoflfaaSat
import Derived.Test.YthbddbipmoflfaaTabs
import Derived.Test.YthbddbipmoflfaaArith
import Derived.Test.YthbddbipmoflfaaExp
import Derived.Test.YthbddbipmoflfaaRoot
namespace Go.Proofs.Ythbddbipmoflfaa
open Go.ChangeShapes Go.WideShapes Go.ChangeAt Go.RowKit
set_option linter.unusedVariables false

theorem tabP_falls : ∀ i : Fin 17, ∀ j : Fin 17, i ≤ j → tabP.getD j 0 ≤ tabP.getD i 0 := by decide +kernel

theorem powZ_falls (i j : Int) (h0 : 0 ≤ i) (h : i ≤ j) (h1 : j ≤ 16) : powZ j ≤ powZ i :=
  tabP_falls ⟨i.toNat, by omega⟩ ⟨j.toNat, by omega⟩ (by show i.toNat ≤ j.toNat; omega)

theorem betweenZ_least (f : Int) (h0 : 0 ≤ f) (h1 : f < 65536) : powZ (f / 4096 + 1) ≤ betweenZ f ∧ betweenZ f ≤ powZ (f / 4096) := by
  have s := powZ_steps (f / 4096) (by omega) (by omega)
  have m := prod_bounds (powZ (f / 4096) - powZ (f / 4096 + 1)) (f % 4096) s.1 s.2.1 (by omega) (by omega)
  unfold betweenZ
  omega

theorem betweenZ_falls (f g : Int) (h0 : 0 ≤ f) (h : f ≤ g) (h1 : g < 65536) : betweenZ g ≤ betweenZ f := by
  by_cases k : f / 4096 = g / 4096
  · have s := powZ_steps (f / 4096) (by omega) (by omega)
    have m := Int.mul_le_mul_of_nonneg_left (show f % 4096 ≤ g % 4096 by omega) s.1
    unfold betweenZ
    rw [← k]
    have d := Int.ediv_le_ediv (show (0 : Int) < 4096 by decide) m
    omega
  · have a := (betweenZ_least f h0 (by omega)).1
    have b := (betweenZ_least g (by omega) h1).2
    have c := powZ_falls (f / 4096 + 1) (g / 4096) (by omega) (by omega) (by omega)
    omega

def expT (t : Int) : Int := if 16 < t / 65536 then 0 else betweenZ (t % 65536) / 2 ^ (t / 65536).toNat

theorem pow_le (a b : Nat) (h : a ≤ b) : (2 : Int) ^ a ≤ 2 ^ b := by
  have := Nat.pow_le_pow_right (show 0 < 2 by decide) h
  exact_mod_cast this

theorem expT_falls (t u : Int) (h0 : 0 ≤ t) (h : t ≤ u) : expT u ≤ expT t := by
  have bt := betweenZ_bounds (t % 65536) (by omega) (by omega)
  have bu := betweenZ_bounds (u % 65536) (by omega) (by omega)
  have p : (0 : Int) < 2 ^ (t / 65536).toNat := Int.pow_pos (by decide)
  have q : (0 : Int) < 2 ^ (u / 65536).toNat := Int.pow_pos (by decide)
  have nt : 0 ≤ betweenZ (t % 65536) / 2 ^ (t / 65536).toNat := Int.ediv_nonneg (by omega) (by omega)
  unfold expT
  by_cases k : 16 < u / 65536
  · rw [if_pos k]
    split
    · omega
    · exact nt
  · rw [if_neg k, if_neg (by omega)]
    by_cases e : t / 65536 = u / 65536
    · rw [← e]
      exact Int.ediv_le_ediv p (betweenZ_falls _ _ (by omega) (by omega) (by omega))
    · have e1 : (u / 65536).toNat = ((u / 65536).toNat - (t / 65536).toNat - 1) + ((t / 65536).toNat + 1) := by omega
      have l := pow_le ((t / 65536).toNat + 1) (u / 65536).toNat (by omega)
      rw [Int.pow_succ] at l
      refine Int.le_ediv_of_mul_le p ?_
      have d0 : 0 ≤ betweenZ (u % 65536) / 2 ^ (u / 65536).toNat := Int.ediv_nonneg (by omega) (by omega)
      have d1 := Int.ediv_mul_le (betweenZ (u % 65536)) (Int.ne_of_gt q)
      have d2 := Int.mul_le_mul_of_nonneg_left l d0
      rw [← Int.mul_assoc] at d2
      omega

theorem tZ_eq (x : Int) : tZ x = min 2147483648 (((-min (clampZ x) 0) * 94548 / 32768 + 1) / 2) := by
  unfold tZ
  rw [mulZ_sixteen]
  have cb := clampZ_bounds x
  have e : clampZ 94548 = 94548 := by decide
  have e2 : clampZ (min (clampZ x) 0) = min (clampZ x) 0 := by
    generalize clampZ x = c at *
    unfold clampZ
    repeat' split
    all_goals omega
  have a0 : min (clampZ x) 0 ≤ 0 := by omega
  rw [e, e2]
  generalize min (clampZ x) 0 = A at *
  unfold clampZ
  repeat' split
  all_goals omega

theorem clampZ_rises (a b : Int) (h : a ≤ b) : clampZ a ≤ clampZ b := by
  unfold clampZ
  repeat' split
  all_goals omega

theorem tZ_falls (a b : Int) (h : a ≤ b) : tZ b ≤ tZ a := by
  have c := clampZ_rises a b h
  rw [tZ_eq, tZ_eq]
  omega

theorem expZ_rises (a b : Int) (h : a ≤ b) : expZ a ≤ expZ b :=
  expT_falls (tZ b) (tZ a) (tZ_bounds b).1 (tZ_falls a b h)

theorem rootZ_rises (n m : Int) (h0 : 0 ≤ n) (h : n ≤ m) (h1 : m ≤ 281474976710656) : rootZ n ≤ rootZ m := by
  have a := rootZ_spec n h0 (by omega)
  have b := rootZ_spec m (by omega) h1
  generalize rootZ n = s at *
  generalize rootZ m = t at *
  by_cases k : s ≤ t
  · exact k
  · have := Int.mul_le_mul (show t + 1 ≤ s by omega) (show t + 1 ≤ s by omega) (by omega) (by omega)
    omega

theorem rootZ_most (n : Int) (h0 : 0 ≤ n) (h1 : n ≤ 281474976710656) : rootZ n ≤ 16777216 := by
  have a := rootZ_spec n h0 h1
  generalize rootZ n = s at *
  by_cases k : s ≤ 16777216
  · exact k
  · have := Int.mul_le_mul (show 16777217 ≤ s by omega) (show 16777217 ≤ s by omega) (by omega) (by omega)
    omega

theorem rsqrtZ_falls (a b : Int) (h : a ≤ b) : rsqrtZ b ≤ rsqrtZ a ∧ 0 ≤ rsqrtZ b := by
  have c := clampZ_rises a b h
  unfold rsqrtZ
  generalize clampZ a = A at *
  generalize clampZ b = B at *
  by_cases k : B < 1
  · rw [if_pos k, if_pos (by omega)]; omega
  · rw [if_neg k]
    have qb := quot_bounds B (by omega)
    have sb := rootZ_spec _ qb.1 qb.2
    have mb := rootZ_most _ qb.1 qb.2
    by_cases l : A < 1
    · rw [if_pos l]; omega
    · rw [if_neg l]
      have qa := quot_bounds A (by omega)
      refine ⟨rootZ_rises _ _ qb.1 ?_ qa.2, sb.1⟩
      refine Int.le_ediv_of_mul_le (by omega) ?_
      have d1 := Int.ediv_mul_le 281474976710656 (show B ≠ 0 by omega)
      have d2 := Int.mul_le_mul_of_nonneg_left c qb.1
      omega

end Go.Proofs.Ythbddbipmoflfaa
