/- Where the word of a number is exact: what products with 65536, differences, quotients by 65536, rounding to a whole number and conversions give, in units. Facts of arithmetic alone, of no program. -/
import Derived.Test.YtcpnakghndfdpaaRows
import Derived.Test.YtcpnakghndfdpaaKnFloats
import Derived.Laws.FloatArith
namespace Go.Proofs.Ytcpnakghndfdpaa

set_option maxRecDepth 20000

open Ieee (Format Datum Toward)

theorem log2_mul_pow {n : Nat} (h : n ≠ 0) (k : Nat) : (n * 2 ^ k).log2 = n.log2 + k := by
  have hp := Nat.two_pow_pos k
  have hn : n * 2 ^ k ≠ 0 := Nat.mul_ne_zero h (by omega)
  apply Nat.le_antisymm
  · have : (n * 2 ^ k).log2 < n.log2 + 1 + k := by
      rw [Nat.log2_lt hn, Nat.pow_add]
      exact Nat.mul_lt_mul_of_pos_right Nat.lt_log2_self hp
    omega
  · rw [Nat.le_log2 hn, Nat.pow_add]
    exact Nat.mul_le_mul_right _ (Nat.log2_self_le h)

/-- To the nearest whole number, of two as near the even one. -/
def rne (n d : Nat) : Nat := n / d + (decide (d < 2 * (n % d)) || (d == 2 * (n % d) && n / d % 2 == 1)).toNat

theorem cut_even (s : Bool) (n k : Nat) : Toward.cut .even s n k = rne n (2 ^ k) := by
  unfold Toward.cut rne
  dsimp only
  rw [Nat.shiftLeft_eq, Nat.one_mul]
  by_cases h : k ≤ n.log2 + 2
  · rw [Nat.min_eq_left h]
  · rw [Nat.min_eq_right (by omega)]
    have h1 : 2 * n < 2 ^ (n.log2 + 2) := by
      have := @Nat.lt_log2_self n
      rw [Nat.pow_succ] at this ⊢
      rw [Nat.pow_succ]
      omega
    have h2 : 2 ^ (n.log2 + 2) ≤ 2 ^ k := Nat.pow_le_pow_right (by decide) (by omega)
    generalize 2 ^ (n.log2 + 2) = A at *
    generalize 2 ^ k = B at *
    rw [Nat.mod_eq_of_lt (show n < A by omega), Nat.mod_eq_of_lt (show n < B by omega), Nat.div_eq_of_lt (show n < A by omega), Nat.div_eq_of_lt (show n < B by omega)]
    have a1 : decide (A < 2 * n) = false := by simp only [decide_eq_false_iff_not]; omega
    have a2 : decide (B < 2 * n) = false := by simp only [decide_eq_false_iff_not]; omega
    have a3 : (A == 2 * n) = false := by rw [beq_eq_false_iff_ne]; omega
    have a4 : (B == 2 * n) = false := by rw [beq_eq_false_iff_ne]; omega
    rw [a1, a2, a3, a4]

theorem cut_zero (s : Bool) (n k : Nat) : Toward.cut .zero s n k = n / 2 ^ k := by
  unfold Toward.cut
  dsimp only
  rw [Nat.shiftLeft_eq, Nat.one_mul]
  by_cases h : k ≤ n.log2 + 2
  · rw [Nat.min_eq_left h]; rfl
  · rw [Nat.min_eq_right (by omega)]
    have h1 : n < 2 ^ (n.log2 + 2) := by
      have := @Nat.lt_log2_self n
      rw [Nat.pow_succ] at this ⊢
      rw [Nat.pow_succ]
      omega
    have h2 : 2 ^ (n.log2 + 2) ≤ 2 ^ k := Nat.pow_le_pow_right (by decide) (by omega)
    rw [Nat.div_eq_of_lt h1, Nat.div_eq_of_lt (Nat.lt_of_lt_of_le h1 h2)]; rfl

theorem rne_mul (g d : Nat) (h : 0 < d) : rne (g * d) d = g := by
  unfold rne
  rw [Nat.mul_div_cancel _ h, Nat.mul_mod_left]
  have a1 : decide (d < 2 * 0) = false := by simp
  have a2 : (d == 2 * 0) = false := by rw [beq_eq_false_iff_ne]; omega
  rw [a1, a2]; rfl

theorem rne_scale (n d c : Nat) (hc : 0 < c) : rne (n * c) (d * c) = rne n d := by
  unfold rne
  rw [Nat.mul_div_mul_right _ _ hc, Nat.mul_mod_mul_right]
  have e1 : decide (d * c < 2 * (n % d * c)) = decide (d < 2 * (n % d)) := by
    rw [← Nat.mul_assoc]
    exact decide_eq_decide.2 (Nat.mul_lt_mul_right hc)
  have e2 : (d * c == 2 * (n % d * c)) = (d == 2 * (n % d)) := by
    rw [← Nat.mul_assoc, Bool.eq_iff_iff, beq_iff_eq, beq_iff_eq]
    exact Nat.mul_right_cancel_iff hc
  rw [e1, e2]

theorem word_rung (s : Bool) {r : Nat} (h : r < 2 ^ 63) : Ieee.double.word s r % 2 ^ 63 = r ∧ sg (Ieee.double.word s r) = s := by
  unfold Format.word sg
  rw [d_sw]
  cases s
  · simp only [Bool.false_eq_true, if_false]
    refine ⟨by omega, ?_⟩
    rw [beq_eq_false_iff_ne]; omega
  · simp only [if_true]
    refine ⟨by omega, ?_⟩
    rw [beq_iff_eq]; omega

theorem rv_rung (L k : Nat) (h : k < 2 ^ 53) (h2 : L = 0 ∨ 2 ^ 52 ≤ k) : rv (L * 2 ^ 52 + k) = k * 2 ^ L := by
  unfold rv
  by_cases c : k < 2 ^ 52
  · have : L = 0 := by omega
    subst this
    rw [if_pos (by omega)]; omega
  · rw [if_neg (by omega)]
    have e1 : (L * 2 ^ 52 + k) / 2 ^ 52 - 1 = L := by omega
    have e2 : (L * 2 ^ 52 + k) % 2 ^ 52 = k - 2 ^ 52 := by omega
    rw [e1, e2, show 2 ^ 52 + (k - 2 ^ 52) = k by omega]

theorem BIG_log {W : Nat} (h0 : W ≠ 0) (h : W < BIG) : W.log2 < 2098 := by
  obtain ⟨c, ec⟩ : ∃ c, c = 2098 := ⟨_, rfl⟩
  have e : 2 ^ c = BIG := by rw [ec]; decide +kernel
  rw [← ec, Nat.log2_lt h0, e]; exact h

/-- The kept digits of a number of at most 53 digits: all of them. -/
theorem kept (W g q : Nat) (h0 : W ≠ 0) (e : W = g * 2 ^ q) (hg : g < 2 ^ 53) :
    ∃ k, W = k * 2 ^ (W.log2 - 52) ∧ k < 2 ^ 53 ∧ (W.log2 - 52 = 0 ∨ 2 ^ 52 ≤ k) := by
  have g0 : g ≠ 0 := by intro h; subst h; omega
  have hl : W.log2 = g.log2 + q := by rw [e, log2_mul_pow g0]
  have hg' : g.log2 < 53 := (Nat.log2_lt g0).2 hg
  have hL : W.log2 - 52 ≤ q := by omega
  refine ⟨g * 2 ^ (q - (W.log2 - 52)), ?_, ?_, ?_⟩
  · rw [Nat.mul_assoc, ← Nat.pow_add, Nat.sub_add_cancel hL]; exact e
  · have h1 : g * 2 ^ (q - (W.log2 - 52)) ≠ 0 := Nat.mul_ne_zero g0 (by have := Nat.two_pow_pos (q - (W.log2 - 52)); omega)
    rw [← Nat.log2_lt h1, log2_mul_pow g0]
    omega
  · by_cases c : W.log2 - 52 = 0
    · exact .inl c
    · have h1 : g * 2 ^ (q - (W.log2 - 52)) ≠ 0 := Nat.mul_ne_zero g0 (by have := Nat.two_pow_pos (q - (W.log2 - 52)); omega)
      right
      rw [← Nat.le_log2 h1, log2_mul_pow g0]
      omega

/-- THE WORD OF A NUMBER THAT THE FORMAT HAS: it stands for that number. -/
theorem near_exact (s : Bool) (mag a b g q : Nat) (place : Int) (hp : place = (a : Int) - b - 1074) (e : mag * 2 ^ a = g * 2 ^ q * 2 ^ b) (hg : g < 2 ^ 53) (hW : g * 2 ^ q < BIG) :
    Fin64 (Ieee.double.nearest s mag place) ∧ K (Ieee.double.nearest s mag place) = if s then -((g * 2 ^ q : Nat) : Int) else ((g * 2 ^ q : Nat) : Int) := by
  obtain ⟨W, eW⟩ : ∃ W, W = g * 2 ^ q := ⟨_, rfl⟩
  rw [← eW] at e hW ⊢
  have pa := Nat.two_pow_pos a
  have pb := Nat.two_pow_pos b
  by_cases m0 : mag = 0
  · have w0 : W = 0 := by
      rw [m0, Nat.zero_mul] at e
      rcases Nat.mul_eq_zero.1 e.symm with h | h <;> omega
    unfold Format.nearest
    rw [if_pos m0]
    have h := word_rung s (r := 0) (by omega)
    refine ⟨by unfold Fin64; rw [h.1]; omega, ?_⟩
    unfold K
    rw [h.1, h.2, w0]
    rfl
  · have w0 : W ≠ 0 := by
      intro h
      rw [h, Nat.zero_mul] at e
      rcases Nat.mul_eq_zero.1 e with h | h <;> omega
    have hl : mag.log2 + a = W.log2 + b := by
      rw [← log2_mul_pow m0, ← log2_mul_pow w0, e]
    obtain ⟨k, ek, hk, hk2⟩ := kept W g q w0 eW hg
    have hb := BIG_log w0 hW
    obtain ⟨L, eL⟩ : ∃ L, L = W.log2 - 52 := ⟨_, rfl⟩
    rw [← eL] at ek hk2
    have hlast : max (place + (mag.log2 : Int) - ((52 : Nat) : Int)) (-1074) = (L : Int) - 1074 := by omega
    have hcut : Toward.even.cut s (mag <<< (place - ((L : Int) - 1074)).toNat) (((L : Int) - 1074) - place).toNat = k := by
      rw [cut_even, Nat.shiftLeft_eq]
      by_cases c : b + L ≤ a
      · rw [show (((L : Int) - 1074) - place).toNat = 0 by omega, show (place - ((L : Int) - 1074)).toNat = a - (b + L) by omega]
        have e2 : mag * 2 ^ (a - (b + L)) = k := by
          have : mag * 2 ^ (a - (b + L)) * 2 ^ (b + L) = k * 2 ^ (b + L) := by
            rw [Nat.mul_assoc, ← Nat.pow_add, Nat.sub_add_cancel c, e, ek, Nat.mul_assoc, ← Nat.pow_add, Nat.add_comm b L]
          exact Nat.mul_right_cancel (Nat.two_pow_pos _) this
        rw [e2]
        have := rne_mul k 1 (by decide)
        rw [Nat.mul_one] at this
        exact this
      · rw [show (place - ((L : Int) - 1074)).toNat = 0 by omega, show (((L : Int) - 1074) - place).toNat = b + L - a by omega]
        have e2 : mag = k * 2 ^ (b + L - a) := by
          have : mag * 2 ^ a = k * 2 ^ (b + L - a) * 2 ^ a := by
            rw [Nat.mul_assoc, ← Nat.pow_add, Nat.sub_add_cancel (by omega), e, ek, Nat.mul_assoc, ← Nat.pow_add, Nat.add_comm b L]
          exact Nat.mul_right_cancel pa this
        rw [Nat.pow_zero, Nat.mul_one, e2]
        exact rne_mul k _ (Nat.two_pow_pos _)
    have hR : L * 2 ^ 52 + k < 2047 * 2 ^ 52 := by omega
    have en : Ieee.double.nearest s mag place = Ieee.double.word s (L * 2 ^ 52 + k) := by
      unfold Format.nearest
      rw [if_neg m0]
      dsimp only
      rw [d_fb, d_lp, hlast, hcut, d_bin, d_inf, show ((L : Int) - 1074 - -1074).toNat = L by omega, Nat.min_eq_left (by omega)]
    have h := word_rung s (r := L * 2 ^ 52 + k) (by omega)
    rw [en]
    refine ⟨by unfold Fin64; rw [h.1]; omega, ?_⟩
    unfold K
    rw [h.1, h.2, rv_rung L k hk (by omega), ek]

end Go.Proofs.Ytcpnakghndfdpaa
