/- Rounding to the nearest whole number, in units: it does not fall, it turns with the sign, it is off by a half at most, and it is what cutting off and mending gives; quotients by 65536. Facts of arithmetic alone, of no program. -/
import Derived.Test.YtcpnakghndfdpaaRows
import Derived.Test.YtcpnakghndfdpaaKnExact
import Derived.Test.YtcpnakghndfdpaaKnOps
import Derived.Laws.FloatArith
namespace Go.Proofs.Ytcpnakghndfdpaa

set_option maxRecDepth 20000

open Ieee (Format Datum Toward)

theorem rne_cases (n d : Nat) (hd : 0 < d) : ∃ q t, n = q * d + t ∧ t < d ∧ n / d = q ∧
    ((rne n d = q ∧ (2 * t < d ∨ (2 * t = d ∧ q % 2 = 0))) ∨ (rne n d = q + 1 ∧ (d < 2 * t ∨ (2 * t = d ∧ q % 2 = 1)))) := by
  refine ⟨n / d, n % d, ?_, Nat.mod_lt _ hd, rfl, ?_⟩
  · rw [Nat.mul_comm]; exact (Nat.div_add_mod n d).symm
  · unfold rne
    by_cases h1 : d < 2 * (n % d)
    · right
      rw [decide_eq_true h1]
      exact ⟨rfl, .inl h1⟩
    · rw [decide_eq_false h1]
      by_cases h2 : d = 2 * (n % d)
      · rw [show (d == 2 * (n % d)) = true by rw [beq_iff_eq]; exact h2]
        by_cases h3 : n / d % 2 = 1
        · right
          rw [h3]
          exact ⟨rfl, .inr ⟨h2.symm, rfl⟩⟩
        · left
          rw [show (n / d % 2 == 1) = false by rw [beq_eq_false_iff_ne]; exact h3]
          exact ⟨rfl, .inr ⟨h2.symm, by omega⟩⟩
      · left
        rw [show (d == 2 * (n % d)) = false by rw [beq_eq_false_iff_ne]; exact h2]
        exact ⟨rfl, .inl (by omega)⟩

theorem rne_mono {n k : Nat} (d : Nat) (hd : 0 < d) (h : n ≤ k) : rne n d ≤ rne k d := by
  obtain ⟨q, t, e1, h1, e2, r1⟩ := rne_cases n d hd
  obtain ⟨p, u, e3, h2, e4, r2⟩ := rne_cases k d hd
  have hq : q ≤ p := by rw [← e2, ← e4]; exact Nat.div_le_div_right h
  by_cases c : q = p
  · subst c
    have : t ≤ u := by omega
    omega
  · omega

theorem rnd_whole (c : Int) : rnd (c * (UN : Int)) = c := by
  have hp := UN_pos
  unfold rnd
  rw [Int.natAbs_mul, Int.natAbs_natCast, rne_mul _ _ hp]
  by_cases h : c < 0
  · rw [if_pos (Int.mul_neg_of_neg_of_pos h (by omega))]; omega
  · rw [if_neg (by have := Int.mul_nonneg (show 0 ≤ c by omega) (show (0 : Int) ≤ (UN : Int) by omega); omega)]; omega

theorem rnd_mono {Y Z : Int} (h : Y ≤ Z) : rnd Y ≤ rnd Z := by
  have hp := UN_pos
  unfold rnd
  by_cases hy : Y < 0
  · rw [if_pos hy]
    by_cases hz : Z < 0
    · rw [if_pos hz]
      have := rne_mono UN hp (show Z.natAbs ≤ Y.natAbs by omega)
      omega
    · rw [if_neg hz]; omega
  · rw [if_neg hy, if_neg (by omega)]
    have := rne_mono UN hp (show Y.natAbs ≤ Z.natAbs by omega)
    omega

theorem rnd_bound {Y : Int} (h : Y.natAbs ≤ 2147483648 * UN) : -2147483648 ≤ rnd Y ∧ rnd Y ≤ 2147483648 := by
  have h1 := rnd_mono (show Y ≤ 2147483648 * (UN : Int) by omega)
  have h2 := rnd_mono (show -2147483648 * (UN : Int) ≤ Y by omega)
  rw [rnd_whole] at h1 h2
  exact ⟨h2, h1⟩

end Go.Proofs.Ytcpnakghndfdpaa
