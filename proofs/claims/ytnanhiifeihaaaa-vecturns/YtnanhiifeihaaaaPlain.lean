/- Sums of products that stay within 64 bits: plain sums, split and turned round. -/
import Derived.Test.YtnanhiifeihaaaaRows
import Derived.Test.YtnanhiifeihaaaaSat
import Derived.Test.YtnanhiifeihaaaaAdds
import Derived.Test.YtnanhiifeihaaaaView
import Derived.Test.YtnanhiifeihaaaaDots
namespace Go.Proofs.Ytnanhiifeihaaaa

/-- the plain sum of the first k of f -/
def plainS (f : Nat → Int) : Nat → Int
  | 0 => 0
  | k + 1 => plainS f k + f k

theorem plainS_congr (f g : Nat → Int) (k : Nat) (h : ∀ i, i < k → f i = g i) : plainS f k = plainS g k := by
  induction k with
  | zero => rfl
  | succ k ih => simp only [plainS]; rw [ih (fun i hi => h i (by omega)), h k (by omega)]

theorem plainS_bound (f : Nat → Int) (M : Int) (h : ∀ i, -M ≤ f i ∧ f i ≤ M) (k : Nat) : -(k * M) ≤ plainS f k ∧ plainS f k ≤ k * M := by
  induction k with
  | zero => simp [plainS]
  | succ k ih =>
    have b := h k
    have e : ((k + 1 : Nat) : Int) * M = k * M + M := by rw [Int.natCast_add, Int.add_mul]; simp
    simp only [plainS]
    rw [e]
    omega

/-- split -/
theorem plainS_add (f : Nat → Int) (k m : Nat) : plainS f (k + m) = plainS f k + plainS (fun i => f (k + i)) m := by
  induction m with
  | zero => simp [plainS]
  | succ m ih => rw [show k + (m + 1) = (k + m) + 1 by omega]; simp only [plainS]; rw [ih]; omega

/-- turned round -/
theorem plainS_turn (n : Nat) (f : Nat → Int) : plainS (fun j => f (n - 1 - j)) n = plainS f n := by
  induction n generalizing f with
  | zero => rfl
  | succ n ih =>
    have a : plainS f (1 + n) = plainS f 1 + plainS (fun i => f (1 + i)) n := plainS_add f 1 n
    have b : plainS (fun j => f (n + 1 - 1 - j)) n = plainS (fun j => f (1 + (n - 1 - j))) n := plainS_congr _ _ _ fun i hi => by
      rw [show n + 1 - 1 - i = 1 + (n - 1 - i) by omega]
    have c := ih (fun i => f (1 + i))
    have d : plainS f 1 = f 0 := by simp [plainS]
    rw [show n + 1 = 1 + n by omega] at *
    rw [show plainS (fun j => f (1 + n - 1 - j)) (1 + n) = plainS (fun j => f (1 + n - 1 - j)) n + f 0 by
      rw [show 1 + n = n + 1 by omega]; simp only [plainS]; rw [show n + 1 - 1 - n = 0 by omega]]
    rw [a, d]
    rw [b, c]
    omega

def prodF (a b : List Int) (i : Nat) : Int := clampZ (a.getD i 0) * clampZ (b.getD i 0)

/-- where no sum leaves 64 bits, the sum is the plain one -/
theorem sumZ_plain (a b : List Int) (M : Int) (h : ∀ i, -M ≤ prodF a b i ∧ prodF a b i ≤ M) (n : Nat) (hM : (n : Int) * M ≤ 9223372036854775807) (h0 : 0 ≤ M) : ∀ k, k ≤ n → sumZ a b k = plainS (prodF a b) k := by
  intro k
  induction k with
  | zero => intro _; rfl
  | succ k ih =>
    intro hk
    have e : sumZ a b (k + 1) = addZ (sumZ a b k) (prodF a b k) := rfl
    have bb := plainS_bound _ M h (k + 1)
    have le : ((k + 1 : Nat) : Int) * M ≤ (n : Int) * M := Int.mul_le_mul_of_nonneg_right (by omega) h0
    rw [e, ih (by omega)]
    simp only [plainS] at bb ⊢
    unfold addZ
    rw [if_neg (by omega), if_neg (by omega)]

theorem prodF_bound (a b : List Int) (A B : Nat) (ha : ∀ i, (clampZ (a.getD i 0)).natAbs ≤ A) (hb : ∀ i, (clampZ (b.getD i 0)).natAbs ≤ B) (i : Nat) : -((A * B : Nat) : Int) ≤ prodF a b i ∧ prodF a b i ≤ ((A * B : Nat) : Int) := by
  have h : (prodF a b i).natAbs ≤ A * B := by
    unfold prodF
    rw [Int.natAbs_mul]
    exact Nat.mul_le_mul (ha i) (hb i)
  omega

theorem clampZ_abs (x : Int) : (clampZ x).natAbs ≤ 2147483648 := by
  have := clampZ_bounds x
  omega

theorem clampZ_abs8 (x : Int) (h : (Lit.int .i8 x).wf = true) : (clampZ x).natAbs ≤ 128 := by
  have b8 : -128 ≤ x ∧ x ≤ 127 := by simpa [Lit.wf, IntKind.min, IntKind.max, IntKind.signed, IntKind.bits] using h
  unfold clampZ
  rw [if_neg (by omega), if_neg (by omega)]
  omega

/-- how the sum is rounded -/
theorem shift6_near (s : Int) : s - 32 ≤ 64 * shiftZ s 6 ∧ 64 * shiftZ s 6 ≤ s + 32 := by
  unfold shiftZ shN
  rw [if_neg (by decide), show min (6 : Int) 62 = 6 by decide, show (2 : Int) ^ ((6 : Int).toNat - 1) = 32 by decide]
  split <;> omega

theorem clampZ_in (z : Int) (h0 : -2147483648 ≤ z) (h1 : z ≤ 2147483647) : clampZ z = z := by
  unfold clampZ
  rw [if_neg (by omega), if_neg (by omega)]

end Go.Proofs.Ytnanhiifeihaaaa
