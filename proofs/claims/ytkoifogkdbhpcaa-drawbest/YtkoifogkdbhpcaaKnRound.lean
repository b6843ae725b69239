/- Rounding to the nearest whole number, in units: it does not fall, it turns with the sign, it is off by a half at most, and it is what cutting off and mending gives; quotients by 65536. Facts of arithmetic alone, of no program. -/
import Derived.Test.YtkoifogkdbhpcaaRows
import Derived.Test.YtkoifogkdbhpcaaKnExact
import Derived.Test.YtkoifogkdbhpcaaKnOps
import Derived.Laws.FloatArith
namespace Go.Proofs.Ytkoifogkdbhpcaa
set_option maxRecDepth 20000

open Ieee (Format Datum Toward)

theorem rne_cases (n d : Nat) (hd : 0 < d) : ∃ q t, n = q * d + t ∧ t < d ∧ n / d = q ∧
    ((rne n d = q ∧ (2 * t < d ∨ (2 * t = d ∧ q % 2 = 0))) ∨ (rne n d = q + 1 ∧ (d < 2 * t ∨ (2 * t = d ∧ q % 2 = 1)))) := by
  refine ⟨n / d, n % d, ?_, Nat.mod_lt _ hd, rfl, ?_⟩
  · rw [Nat.mul_comm]; exact (Nat.div_add_mod n d).symm
  · unfold rne
    by_cases h1 : d < 2 * (n % d)
    · right
      rw [decide_eq_true h1]
      exact ⟨rfl, .inl h1⟩
    · rw [decide_eq_false h1]
      by_cases h2 : d = 2 * (n % d)
      · rw [show (d == 2 * (n % d)) = true by rw [beq_iff_eq]; exact h2]
        by_cases h3 : n / d % 2 = 1
        · right
          rw [h3]
          exact ⟨rfl, .inr ⟨h2.symm, rfl⟩⟩
        · left
          rw [show (n / d % 2 == 1) = false by rw [beq_eq_false_iff_ne]; exact h3]
          exact ⟨rfl, .inr ⟨h2.symm, by omega⟩⟩
      · left
        rw [show (d == 2 * (n % d)) = false by rw [beq_eq_false_iff_ne]; exact h2]
        exact ⟨rfl, .inl (by omega)⟩

theorem rne_mono {n k : Nat} (d : Nat) (hd : 0 < d) (h : n ≤ k) : rne n d ≤ rne k d := by
  obtain ⟨q, t, e1, h1, e2, r1⟩ := rne_cases n d hd
  obtain ⟨p, u, e3, h2, e4, r2⟩ := rne_cases k d hd
  have hq : q ≤ p := by rw [← e2, ← e4]; exact Nat.div_le_div_right h
  by_cases c : q = p
  · subst c
    have : t ≤ u := by omega
    omega
  · omega

theorem rnd_whole (c : Int) : rnd (c * (UN : Int)) = c := by
  have hp := UN_pos
  unfold rnd
  rw [Int.natAbs_mul, Int.natAbs_natCast, rne_mul _ _ hp]
  by_cases h : c < 0
  · rw [if_pos (Int.mul_neg_of_neg_of_pos h (by omega))]; omega
  · rw [if_neg (by have := Int.mul_nonneg (show 0 ≤ c by omega) (show (0 : Int) ≤ (UN : Int) by omega); omega)]; omega

theorem rnd_mono {Y Z : Int} (h : Y ≤ Z) : rnd Y ≤ rnd Z := by
  have hp := UN_pos
  unfold rnd
  by_cases hy : Y < 0
  · rw [if_pos hy]
    by_cases hz : Z < 0
    · rw [if_pos hz]
      have := rne_mono UN hp (show Z.natAbs ≤ Y.natAbs by omega)
      omega
    · rw [if_neg hz]; omega
  · rw [if_neg hy, if_neg (by omega)]
    have := rne_mono UN hp (show Y.natAbs ≤ Z.natAbs by omega)
    omega

theorem rnd_bound {Y : Int} (h : Y.natAbs ≤ 2147483648 * UN) : -2147483648 ≤ rnd Y ∧ rnd Y ≤ 2147483648 := by
  have h1 := rnd_mono (show Y ≤ 2147483648 * (UN : Int) by omega)
  have h2 := rnd_mono (show -2147483648 * (UN : Int) ≤ Y by omega)
  rw [rnd_whole] at h1 h2
  exact ⟨h2, h1⟩

/-- What is rounded: so many ones and less than one more, of the number's sign. -/
theorem rnd_parts (Y : Int) : ∃ (q t : Nat), t < UN ∧ Y.natAbs = q * UN + t ∧ Y.natAbs / UN = q ∧
    ((rnd Y = (if Y < 0 then -(q : Int) else (q : Int)) ∧ (t < HN ∨ (t = HN ∧ q % 2 = 0))) ∨
     (rnd Y = (if Y < 0 then -((q : Int) + 1) else (q : Int) + 1) ∧ (HN < t ∨ (t = HN ∧ q % 2 = 1)))) := by
  obtain ⟨q, t, e1, h1, e2, r⟩ := rne_cases Y.natAbs UN UN_pos
  have hU := UN_two
  refine ⟨q, t, h1, e1, e2, ?_⟩
  unfold rnd
  rcases r with ⟨e, c⟩ | ⟨e, c⟩
  · left; rw [e]; exact ⟨rfl, by omega⟩
  · right; rw [e]; exact ⟨by split <;> omega, by omega⟩

theorem tdiv_sign (Y : Int) : Y.tdiv (UN : Int) = if Y < 0 then -((Y.natAbs / UN : Nat) : Int) else ((Y.natAbs / UN : Nat) : Int) := by
  by_cases h : Y < 0
  · rw [if_pos h]
    have := Int.neg_tdiv (a := -Y) (b := (UN : Int))
    rw [Int.neg_neg] at this
    rw [this, Int.tdiv_eq_ediv_of_nonneg (by omega), Int.natCast_ediv, show ((Y.natAbs : Nat) : Int) = -Y by omega]
  · rw [if_neg h, Int.tdiv_eq_ediv_of_nonneg (by omega), Int.natCast_ediv, show ((Y.natAbs : Nat) : Int) = Y by omega]

/-- Cut off, and mended by what is left. -/
theorem rnd_cut (Y n D : Int) (en : Y.tdiv (UN : Int) = n) (eD : Y - n * (UN : Int) = D) :
    D.natAbs < UN ∧ D.natAbs ≤ Y.natAbs ∧ n.natAbs ≤ Y.natAbs / UN ∧
    (((HN : Int) < D ∨ (D = (HN : Int) ∧ n.tmod 2 ≠ 0)) → rnd Y = n + 1) ∧
    (¬((HN : Int) < D ∨ (D = (HN : Int) ∧ n.tmod 2 ≠ 0)) → (D < -(HN : Int) ∨ (D = -(HN : Int) ∧ n.tmod 2 ≠ 0)) → rnd Y = n - 1) ∧
    (¬((HN : Int) < D ∨ (D = (HN : Int) ∧ n.tmod 2 ≠ 0)) → ¬(D < -(HN : Int) ∨ (D = -(HN : Int) ∧ n.tmod 2 ≠ 0)) → rnd Y = n) := by
  obtain ⟨q, t, h1, e1, e3, r⟩ := rnd_parts Y
  rw [tdiv_sign, e3] at en
  rw [e3]
  have hU := UN_two
  have hH := HN_pos
  obtain ⟨Q, eQ⟩ : ∃ Q : Nat, Q = q * UN := ⟨_, rfl⟩
  have eQ' : (q : Int) * (UN : Int) = (Q : Int) := by rw [eQ, Int.natCast_mul]
  rw [← eQ] at e1
  by_cases hy : Y < 0
  · rw [if_pos hy] at en
    simp only [if_pos hy] at r
    rw [← en, Int.neg_mul, eQ'] at eD
    have hm : n.tmod 2 ≠ 0 ↔ q % 2 = 1 := by
      rw [← en, Int.neg_tmod, Int.tmod_eq_emod_of_nonneg (by omega)]; omega
    rw [hm]
    refine ⟨by omega, by omega, by omega, ?_, ?_, ?_⟩ <;> omega
  · rw [if_neg hy] at en
    simp only [if_neg hy] at r
    rw [← en, eQ'] at eD
    have hm : n.tmod 2 ≠ 0 ↔ q % 2 = 1 := by
      rw [← en, Int.tmod_eq_emod_of_nonneg (by omega)]; omega
    rw [hm]
    refine ⟨by omega, by omega, by omega, ?_, ?_, ?_⟩ <;> omega

end Go.Proofs.Ytkoifogkdbhpcaa
