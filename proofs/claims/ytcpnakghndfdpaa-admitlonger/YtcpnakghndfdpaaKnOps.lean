/- What the operations on numbers of 64 bits give, in units, where they are exact: conversions, products with 65536, quotients by 65536, differences with whole numbers, rounding. Facts of arithmetic alone, of no program. -/
import Derived.Test.YtcpnakghndfdpaaRows
import Derived.Test.YtcpnakghndfdpaaKnFloats
import Derived.Test.YtcpnakghndfdpaaKnExact
import Derived.Laws.FloatArith
namespace Go.Proofs.Ytcpnakghndfdpaa

set_option maxRecDepth 20000

open Ieee (Format Datum Toward)

/-- The units of the number one, and of a half. -/
def UN : Nat := 2 ^ 1074

theorem UN_pos : 0 < UN := by decide +kernel

theorem UN_pow : ∃ c : Nat, c = 1074 ∧ UN = 2 ^ c := ⟨1074, rfl, by decide +kernel⟩

theorem sign_mul (s : Bool) (g W : Nat) : (if s then -((g * W : Nat) : Int) else ((g * W : Nat) : Int)) = (if s then -(g : Int) else (g : Int)) * (W : Int) := by
  cases s
  · simp only [Bool.false_eq_true, if_false]; rw [Int.natCast_mul]
  · simp only [if_true]; rw [Int.natCast_mul, Int.neg_mul]

theorem whole_exact (s : Bool) (m : Nat) (h : m < 2 ^ 53) : Fin64 (Ieee.double.nearest s m 0) ∧ K (Ieee.double.nearest s m 0) = (if s then -(m : Int) else (m : Int)) * (UN : Int) := by
  obtain ⟨c, ec, eU⟩ := UN_pow
  have r := near_exact s m c 0 m c 0 (by omega) (by rw [Nat.pow_zero, Nat.mul_one]) h (BIG_lt h (by omega))
  rw [← eU, sign_mul] at r
  exact r

theorem K_abs {x m a : Nat} (e : rv (x % 2 ^ 63) = m * 2 ^ a) : K x = if sg x then -((m * 2 ^ a : Nat) : Int) else ((m * 2 ^ a : Nat) : Int) := by
  unfold K; rw [e]

theorem K_natAbs (x : Nat) : (K x).natAbs = rv (x % 2 ^ 63) := by
  unfold K; split <;> omega

theorem read65536 : Ieee.double.read 4679240012837945344 = .number false (2 ^ 52) (-36) := by decide +kernel

/-- The product with 65536, where it is not too great: exact. -/
theorem mul_exact {x : Nat} (fx : Fin64 x) (hb : (K x).natAbs ≤ 32768 * UN) :
    ∃ r, FloatKind.f64.format.mul x 4679240012837945344 = some r ∧ Fin64 r ∧ K r = 65536 * K x := by
  obtain ⟨m, a, e1, h1, h2, e2⟩ := read_fin fx
  have hr : FloatKind.f64.format.mul x 4679240012837945344 = some (Ieee.double.nearest (sg x ^^ false) (m * 2 ^ 52) ((a : Int) - 1074 + -36)) := by
    show Format.mul Ieee.double x 4679240012837945344 = _
    unfold Format.mul
    rw [e1, read65536]
    rfl
  refine ⟨_, hr, ?_⟩
  rw [Bool.xor_false]
  have hlt : m * 2 ^ (a + 16) < BIG := by
    rw [Nat.pow_add, ← Nat.mul_assoc, ← e2, ← K_natAbs]
    exact Nat.lt_of_le_of_lt (Nat.mul_le_mul_right _ hb) (by decide +kernel)
  have r := near_exact (sg x) (m * 2 ^ 52) a 36 m (a + 16) ((a : Int) - 1074 + -36) (by omega) (by
    rw [Nat.mul_assoc, Nat.mul_assoc, ← Nat.pow_add, ← Nat.pow_add]
    refine congrArg (fun z => m * 2 ^ z) ?_
    omega) h1 hlt
  refine ⟨r.1, ?_⟩
  rw [r.2, K_abs e2, Nat.pow_add, ← Nat.mul_assoc]
  split <;> omega

/-- The whole part. -/
theorem toInt_K {x : Nat} (fx : Fin64 x) : (FloatKind.f64.decode x).toInt .zero = some ((K x).tdiv (UN : Int)) := by
  obtain ⟨m, a, e1, h1, h2, e2⟩ := read_fin fx
  have ed : FloatKind.f64.decode x = .number (sg x) m ((a : Int) - 1074) := e1
  rw [ed]
  unfold Datum.toInt Datum.integral
  dsimp only
  refine congrArg some ?_
  rw [cut_zero, signed_val, Nat.pow_zero, Nat.mul_one, K_abs e2]
  have hq : m <<< ((a : Int) - 1074).toNat / 2 ^ (-((a : Int) - 1074)).toNat = m * 2 ^ a / UN := by
    obtain ⟨c, ec, eU⟩ := UN_pow
    rw [eU, Nat.shiftLeft_eq]
    by_cases h : a ≤ c
    · rw [show ((a : Int) - 1074).toNat = 0 by omega, show (-((a : Int) - 1074)).toNat = c - a by omega, Nat.pow_zero, Nat.mul_one]
      have : 2 ^ c = 2 ^ (c - a) * 2 ^ a := by rw [← Nat.pow_add, Nat.sub_add_cancel h]
      rw [this, Nat.mul_div_mul_right _ _ (Nat.two_pow_pos a)]
    · rw [show ((a : Int) - 1074).toNat = a - c by omega, show (-((a : Int) - 1074)).toNat = 0 by omega, Nat.pow_zero, Nat.div_one]
      have : 2 ^ a = 2 ^ (a - c) * 2 ^ c := by rw [← Nat.pow_add, Nat.sub_add_cancel (by omega)]
      rw [this, ← Nat.mul_assoc, Nat.mul_div_cancel _ (Nat.two_pow_pos c)]
  rw [hq]
  cases sg x
  · simp only [Bool.false_eq_true, if_false]
    rw [Int.tdiv_eq_ediv_of_nonneg (by omega)]; rfl
  · simp only [if_true]
    rw [Int.neg_tdiv, Int.tdiv_eq_ediv_of_nonneg (by omega)]; rfl

theorem toIntVal {x : Nat} (fx : Fin64 x) {n : Int} (e : (K x).tdiv (UN : Int) = n) (h0 : -9223372036854775808 ≤ n) (h1 : n ≤ 9223372036854775807) : floatToIntVal .f64 x .i64 = some n := by
  unfold floatToIntVal
  rw [toInt_K fx, e]
  dsimp only
  rw [if_pos ⟨h0, h1⟩]

/-- Whole numbers nearest to so many units; of two as near the even one. -/
def rnd (Y : Int) : Int := if Y < 0 then -(rne Y.natAbs UN : Int) else (rne Y.natAbs UN : Int)

theorem rne_le (n d : Nat) : rne n d ≤ n / d + 1 := by
  unfold rne
  have h : ∀ b : Bool, b.toNat ≤ 1 := by intro b; cases b <;> decide
  exact Nat.add_le_add_left (h _) _

theorem rne_zero (d : Nat) (h : 0 < d) : rne 0 d = 0 := by
  have := rne_mul 0 d h
  rw [Nat.zero_mul] at this
  exact this

theorem round_exact {x : Nat} (fx : Fin64 x) (hb : (K x).natAbs < 2 ^ 52 * UN) :
    Fin64 (FloatKind.f64.encode ((FloatKind.f64.decode x).integral .even)) ∧ K (FloatKind.f64.encode ((FloatKind.f64.decode x).integral .even)) = rnd (K x) * (UN : Int) := by
  obtain ⟨m, a, e1, h1, h2, e2⟩ := read_fin fx
  have ed : FloatKind.f64.decode x = .number (sg x) m ((a : Int) - 1074) := e1
  have hq : rne (m <<< ((a : Int) - 1074).toNat) (2 ^ (-((a : Int) - 1074)).toNat) = rne (m * 2 ^ a) UN := by
    obtain ⟨c, ec, eU⟩ := UN_pow
    rw [eU, Nat.shiftLeft_eq]
    by_cases h : a ≤ c
    · rw [show ((a : Int) - 1074).toNat = 0 by omega, show (-((a : Int) - 1074)).toNat = c - a by omega, Nat.pow_zero, Nat.mul_one]
      have : 2 ^ c = 2 ^ (c - a) * 2 ^ a := by rw [← Nat.pow_add, Nat.sub_add_cancel h]
      rw [this, rne_scale _ _ _ (Nat.two_pow_pos a)]
    · rw [show ((a : Int) - 1074).toNat = a - c by omega, show (-((a : Int) - 1074)).toNat = 0 by omega, Nat.pow_zero]
      have e : 2 ^ a = 2 ^ (a - c) * 2 ^ c := by rw [← Nat.pow_add, Nat.sub_add_cancel (by omega)]
      have t := rne_mul (m * 2 ^ (a - c)) 1 (by decide)
      rw [Nat.mul_one] at t
      rw [e, ← Nat.mul_assoc, rne_mul _ _ (Nat.two_pow_pos c), t]
  have en : FloatKind.f64.encode ((FloatKind.f64.decode x).integral .even) = Ieee.double.nearest (sg x) (rne (m * 2 ^ a) UN) 0 := by
    rw [ed]
    unfold Datum.integral
    dsimp only
    rw [cut_even, hq]
    rfl
  rw [en]
  have hk := K_natAbs x
  rw [e2] at hk
  have hlt : rne (m * 2 ^ a) UN < 2 ^ 53 := by
    rw [hk] at hb
    have := rne_le (m * 2 ^ a) UN
    have : m * 2 ^ a / UN < 2 ^ 52 := (Nat.div_lt_iff_lt_mul UN_pos).2 hb
    omega
  have r := whole_exact (sg x) _ hlt
  refine ⟨r.1, ?_⟩
  rw [r.2]
  refine congrArg (· * (UN : Int)) ?_
  unfold rnd
  rw [hk]
  have ek := K_abs e2
  by_cases z : m * 2 ^ a = 0
  · rw [z, rne_zero _ UN_pos]
    split <;> split <;> rfl
  · cases hs : sg x
    · rw [hs] at ek
      simp only [Bool.false_eq_true, if_false] at ek ⊢
      rw [if_neg (by omega)]
    · rw [hs] at ek
      simp only [if_true] at ek ⊢
      rw [if_pos (by omega)]

end Go.Proofs.Ytcpnakghndfdpaa
