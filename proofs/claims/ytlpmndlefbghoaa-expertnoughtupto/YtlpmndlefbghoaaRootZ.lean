/- Texts put together: Root, Ref. -/
import Derived.Test.YtlpmndlefbghoaaRows
import Derived.Test.YtlpmndlefbghoaaSat
import Derived.WalkKit
import Derived.ProofKit
import Derived.OpenShut
import Derived.WalkLawsBesides
import Derived.Test.YtlpmndlefbghoaaSatRef
import Derived.Test.YtlpmndlefbghoaaTabs
import Derived.Test.YtlpmndlefbghoaaArith
import Derived.Test.YtlpmndlefbghoaaExp
import Derived.Deep.QuietTactic
import Derived.BigQuiet
namespace Go.Proofs.Ytlpmndlefbghoaa

/- What root and Rsqrt of package curve give back: contracts of the calls; the greatest number whose square is at most a given one. -/
section
open Go.ChangeShapes Go.WideShapes Go.ChangeAt Go.RowKit
set_option linter.unusedVariables false

def rnd (n : Int) : Nat → Int → Int
  | 0, r => r
  | k + 1, r => rnd n k (if (r + 2 ^ k) * (r + 2 ^ k) ≤ n then r + 2 ^ k else r)

theorem rnd_spec (n : Int) : ∀ (k : Nat) (r : Int), 0 ≤ r → r * r ≤ n → n < (r + 2 ^ k) * (r + 2 ^ k) → 0 ≤ rnd n k r ∧ rnd n k r * rnd n k r ≤ n ∧ n < (rnd n k r + 1) * (rnd n k r + 1)
  | 0, r, h0, h1, h2 => by
    unfold rnd
    exact ⟨h0, h1, by simpa using h2⟩
  | k + 1, r, h0, h1, h2 => by
    have p : (0 : Int) < 2 ^ k := Int.pow_pos (by decide)
    rw [Int.pow_succ] at h2
    unfold rnd
    split
    · rename_i h
      refine rnd_spec n k _ (by omega) h ?_
      have e : r + 2 ^ k + 2 ^ k = r + 2 ^ k * 2 := by omega
      rw [e]; exact h2
    · rename_i h
      exact rnd_spec n k _ h0 h1 (by omega)

def rootZ (n : Int) : Int := rnd n 25 0

theorem rootZ_spec (n : Int) (h0 : 0 ≤ n) (h1 : n ≤ 281474976710656) : 0 ≤ rootZ n ∧ rootZ n * rootZ n ≤ n ∧ n < (rootZ n + 1) * (rootZ n + 1) :=
  rnd_spec n 25 0 (by decide) (by omega) (by omega)

theorem sq_bounds (a : Int) (h0 : 0 ≤ a) (h1 : a ≤ 33554432) : 0 ≤ a * a ∧ a * a ≤ 1125899906842624 := by
  refine ⟨Int.mul_nonneg h0 h0, ?_⟩
  have := Int.mul_le_mul h1 h1 h0 (by decide)
  omega

def rsqrtZ (x : Int) : Int := if clampZ x < 1 then 2147483647 else rootZ (281474976710656 / clampZ x)

theorem quot_bounds (c : Int) (h : 1 ≤ c) : 0 ≤ 281474976710656 / c ∧ 281474976710656 / c ≤ 281474976710656 :=
  ⟨Int.ediv_nonneg (by decide) (by omega), Int.ediv_le_self _ (by decide)⟩
end

/- What the document's answers of layer 3 give back: contracts of the calls. -/
section
open Go.ChangeShapes Go.WideShapes Go.ChangeAt Go.RowKit
set_option linter.unusedVariables false
end

end Go.Proofs.Ytlpmndlefbghoaa
