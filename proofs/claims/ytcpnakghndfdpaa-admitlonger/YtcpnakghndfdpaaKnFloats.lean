/- Numbers of 64 bits as whole numbers: each word that is no NaN stands for K x units (a unit: the least number above nought); what comparing, products with a power of two, differences, quotients, rounding and conversions give in units, where they are exact. Facts of arithmetic alone, of no program. -/
import Derived.Test.YtcpnakghndfdpaaRows
import Derived.Laws.FloatArith
namespace Go.Proofs.Ytcpnakghndfdpaa

set_option maxRecDepth 20000

open Ieee (Format Datum Toward)

/-- The number of units of a rung. -/
def rv (r : Nat) : Nat := if r < 2 ^ 52 then r else (2 ^ 52 + r % 2 ^ 52) * 2 ^ (r / 2 ^ 52 - 1)

def sg (x : Nat) : Bool := x / 2 ^ 63 % 2 == 1

def K (x : Nat) : Int := if sg x then -(rv (x % 2 ^ 63) : Int) else rv (x % 2 ^ 63)

def Fin64 (x : Nat) : Prop := x % 2 ^ 63 < 2047 * 2 ^ 52

def isN (x : Nat) : Bool := decide (2047 * 2 ^ 52 < x % 2 ^ 63)

theorem d_sw : Ieee.double.signWeight = 2 ^ 63 := rfl

theorem d_bin : Ieee.double.binade = 2 ^ 52 := rfl

theorem d_inf : Ieee.double.infRung = 2047 * 2 ^ 52 := rfl

theorem d_lp : Ieee.double.leastPlace = -1074 := rfl

theorem d_fb : Ieee.double.fractionBits = 52 := rfl

/-- What a finite word is read as. -/
theorem read_fin {x : Nat} (h : Fin64 x) : ∃ m a, Ieee.double.read x = .number (sg x) m ((a : Nat) - 1074 : Int) ∧ m < 2 ^ 53 ∧ a ≤ 2045 ∧ rv (x % 2 ^ 63) = m * 2 ^ a := by
  unfold Fin64 at h
  by_cases h1 : x % 2 ^ 63 < 2 ^ 52
  · refine ⟨x % 2 ^ 63, 0, ?_, by omega, by omega, ?_⟩
    · unfold Format.read
      simp only [d_sw, d_bin, d_lp, h1, if_true]
      rfl
    · unfold rv; rw [if_pos h1]; omega
  · refine ⟨2 ^ 52 + x % 2 ^ 63 % 2 ^ 52, x % 2 ^ 63 / 2 ^ 52 - 1, ?_, by omega, by omega, ?_⟩
    · unfold Format.read
      simp only [d_sw, d_bin, d_lp, d_inf, h1, if_false, h, if_true]
      rw [show (-1074 + ((x % 2 ^ 63 / 2 ^ 52 - 1 : Nat) : Int)) = ((x % 2 ^ 63 / 2 ^ 52 - 1 : Nat) : Int) - 1074 by omega]
      rfl
    · unfold rv; rw [if_neg h1]

theorem read_inf {x : Nat} (h : x % 2 ^ 63 = 2047 * 2 ^ 52) : Ieee.double.read x = .infinity (sg x) := by
  unfold Format.read
  simp only [d_sw, d_bin, d_inf, h]
  rw [if_neg (by omega), if_neg (by omega), if_pos trivial]
  rfl

theorem read_nan {x : Nat} (h : isN x = true) : ∃ s t, Ieee.double.read x = .nan s t := by
  unfold isN at h
  simp only [decide_eq_true_eq] at h
  refine ⟨sg x, x % 2 ^ 63 - 2047 * 2 ^ 52, ?_⟩
  unfold Format.read
  have h1 : ¬ x % 2 ^ 63 < 2 ^ 52 := by omega
  have h2 : ¬ x % 2 ^ 63 < 2047 * 2 ^ 52 := by omega
  have h3 : ¬ x % 2 ^ 63 = 2047 * 2 ^ 52 := by omega
  simp only [d_sw, d_bin, d_inf, h1, h2, h3, if_false]
  rfl

theorem signed_val (s : Bool) (m a : Nat) : Ieee.signed s m a = if s then -((m * 2 ^ a : Nat) : Int) else ((m * 2 ^ a : Nat) : Int) := by
  unfold Ieee.signed; rw [Nat.shiftLeft_eq]

theorem K_fin {x m a : Nat} (e : rv (x % 2 ^ 63) = m * 2 ^ a) : K x = Ieee.signed (sg x) m a := by
  rw [signed_val]; unfold K; rw [e]

theorem signed_shift (s : Bool) (m a c : Nat) : Ieee.signed s m (a + c) = Ieee.signed s m a * ((2 ^ c : Nat) : Int) := by
  rw [signed_val, signed_val, Nat.pow_add, ← Nat.mul_assoc]
  cases s
  · simp only [Bool.false_eq_true, if_false]; rw [← Int.natCast_mul]
  · simp only [if_true]; rw [Int.neg_mul, ← Int.natCast_mul]

theorem compare_scale (x y : Int) (c : Nat) : compare (x * ((2 ^ c : Nat) : Int)) (y * ((2 ^ c : Nat) : Int)) = compare x y := by
  have hp : (0 : Int) < ((2 ^ c : Nat) : Int) := by exact_mod_cast Nat.two_pow_pos c
  rcases Int.lt_trichotomy x y with h | h | h
  · rw [Int.compare_eq_lt.2 h, Int.compare_eq_lt.2 (Int.mul_lt_mul_of_pos_right h hp)]
  · rw [h, Int.compare_eq_eq.2 rfl, Int.compare_eq_eq.2 rfl]
  · rw [Int.compare_eq_gt.2 h, Int.compare_eq_gt.2 (Int.mul_lt_mul_of_pos_right h hp)]

def BIG : Nat := 2 ^ 2098

theorem BIG_pos : 0 < BIG := by decide +kernel

theorem BIG_ge : 2 ^ 52 ≤ BIG := by decide +kernel

theorem BIG_eq : 2 ^ 53 * 2 ^ 2045 = BIG := by decide +kernel

theorem scaled_lt {m a c k : Nat} (hm : m < 2 ^ k) (ha : a ≤ c) : m * 2 ^ a < 2 ^ k * 2 ^ c :=
  Nat.lt_of_le_of_lt (Nat.mul_le_mul_left _ (Nat.pow_le_pow_right (by decide) ha)) (Nat.mul_lt_mul_of_pos_right hm (Nat.two_pow_pos _))

theorem BIG_lt {m a : Nat} (hm : m < 2 ^ 53) (ha : a ≤ 2045) : m * 2 ^ a < BIG := by
  obtain ⟨c, ec⟩ : ∃ c, c = 2045 := ⟨_, rfl⟩
  have e : 2 ^ 53 * 2 ^ c = BIG := by rw [ec]; exact BIG_eq
  rw [← ec] at ha
  rw [← e]
  exact scaled_lt hm ha

theorem rv_lt {r : Nat} (h : r < 2047 * 2 ^ 52) : rv r < BIG := by
  unfold rv
  split
  · exact Nat.lt_of_lt_of_le ‹_› BIG_ge
  · have h1 : r / 2 ^ 52 - 1 ≤ 2045 := by omega
    exact BIG_lt (by omega) h1

theorem rv_inf : rv (2047 * 2 ^ 52) = BIG := by decide +kernel

theorem not_isN {x : Nat} (h : isN x = false) : Fin64 x ∨ x % 2 ^ 63 = 2047 * 2 ^ 52 := by
  unfold isN at h; unfold Fin64
  simp only [decide_eq_false_iff_not] at h
  omega

theorem K_lt {x : Nat} (h : Fin64 x) : -(BIG : Int) < K x ∧ K x < (BIG : Int) := by
  have b := rv_lt h
  have p := BIG_pos
  unfold K
  split <;> omega

/-- Words that are no NaN are ordered as their units are. -/
theorem order_K {x y : Nat} (hx : isN x = false) (hy : isN y = false) : Ieee.double.order x y = some (compare (K x) (K y)) := by
  unfold Format.order
  rcases not_isN hx with fx | ix
  · obtain ⟨m, a, e1, _, _, e2⟩ := read_fin fx
    rcases not_isN hy with fy | iy
    · obtain ⟨n, b, e3, _, _, e4⟩ := read_fin fy
      rw [e1, e3]
      unfold Datum.order
      dsimp only
      refine congrArg some ?_
      rw [K_fin e2, K_fin e4]
      by_cases hab : a ≤ b
      · have hm : min ((a : Int) - 1074) ((b : Int) - 1074) = (a : Int) - 1074 := by omega
        rw [hm, show ((a : Int) - 1074 - ((a : Int) - 1074)).toNat = 0 by omega, show ((b : Int) - 1074 - ((a : Int) - 1074)).toNat = b - a by omega]
        rw [← compare_scale _ _ a, ← signed_shift, ← signed_shift, Nat.zero_add, Nat.sub_add_cancel hab]
      · have hm : min ((a : Int) - 1074) ((b : Int) - 1074) = (b : Int) - 1074 := by omega
        rw [hm, show ((b : Int) - 1074 - ((b : Int) - 1074)).toNat = 0 by omega, show ((a : Int) - 1074 - ((b : Int) - 1074)).toNat = a - b by omega]
        rw [← compare_scale _ _ b, ← signed_shift, ← signed_shift, Nat.zero_add, Nat.sub_add_cancel (by omega)]
    · rw [e1, read_inf iy]
      unfold Datum.order
      dsimp only
      refine congrArg some ?_
      have b := K_lt fx
      have ek : K y = if sg y then -(BIG : Int) else (BIG : Int) := by unfold K; rw [iy, rv_inf]
      rw [ek]
      cases hs : sg y
      · simp only [Bool.false_eq_true, if_false]; exact (Int.compare_eq_lt.2 b.2).symm
      · simp only [if_true]; exact (Int.compare_eq_gt.2 b.1).symm
  · have ekx : K x = if sg x then -(BIG : Int) else (BIG : Int) := by unfold K; rw [ix, rv_inf]
    rcases not_isN hy with fy | iy
    · obtain ⟨n, b, e3, _, _, e4⟩ := read_fin fy
      rw [e3, read_inf ix]
      unfold Datum.order
      dsimp only
      refine congrArg some ?_
      have b := K_lt fy
      rw [ekx]
      cases hs : sg x
      · simp only [Bool.false_eq_true, if_false]; exact (Int.compare_eq_gt.2 b.2).symm
      · simp only [if_true]; exact (Int.compare_eq_lt.2 b.1).symm
    · rw [read_inf ix, read_inf iy]
      unfold Datum.order
      dsimp only
      refine congrArg some ?_
      have ek : K y = if sg y then -(BIG : Int) else (BIG : Int) := by unfold K; rw [iy, rv_inf]
      have p := BIG_pos
      rw [ekx, ek]
      cases sg x <;> cases sg y <;> simp only [Bool.false_eq_true, if_false, if_true, Bool.toNat_false, Bool.toNat_true]
      · rw [Int.compare_eq_eq.2 rfl]; rfl
      · rw [Int.compare_eq_gt.2 (by omega)]; rfl
      · rw [Int.compare_eq_lt.2 (by omega)]; rfl
      · rw [Int.compare_eq_eq.2 rfl]; rfl

theorem order_nan_left {x : Nat} (hx : isN x = true) (y : Nat) : Ieee.double.order x y = none := by
  obtain ⟨s, t, e⟩ := read_nan hx
  unfold Format.order
  rw [e]
  unfold Datum.order
  cases Ieee.double.read y <;> rfl

end Go.Proofs.Ytcpnakghndfdpaa
