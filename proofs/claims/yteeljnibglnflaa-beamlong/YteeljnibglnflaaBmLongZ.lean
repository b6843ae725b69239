/- Final scores of a score that is not above nought. -/
import Derived.Test.YteeljnibglnflaaRows
import Derived.Test.YteeljnibglnflaaSat
import Derived.Test.YteeljnibglnflaaBmZ
import Derived.Test.YteeljnibglnflaaBmFin
import Derived.WalkKit
import Derived.ProofKit
import Derived.OpenShut
import Derived.WalkLawsBesides
import Derived.Below
import Derived.Deep.QuietTactic
import Derived.BigQuiet
import Derived.Laws.AppendOwnNone
namespace Go.Proofs.Yteeljnibglnflaa
set_option maxRecDepth 20000
open Go.ChangeShapes Go.WideShapes Go.ChangeAt Go.RowKit
set_option linter.unusedVariables false
set_option linter.unusedSimpArgs false

theorem divZ_low {s d : Int} (h1 : -2147483648 ≤ s) (h2 : s ≤ 0) (d1 : 65536 ≤ d) (d2 : d ≤ 2147483647) : divZ s d = -((-s * 65536) / d) ∧ s ≤ -((-s * 65536) / d) ∧ (d = 65536 → -((-s * 65536) / d) = s) := by
  have e1 : clampZ s = s := clampZ_of h1 (by omega)
  have e2 : clampZ d = d := clampZ_of (by omega) d2
  have e3 : (s * 65536).tdiv d = -((-s * 65536) / d) := by
    have : s * 65536 = -(-s * 65536) := by omega
    rw [this, Int.neg_tdiv, Int.tdiv_eq_ediv_of_nonneg (by omega)]
  have q0 : 0 ≤ (-s * 65536) / d := Int.ediv_nonneg (by omega) (by omega)
  have q1 : (-s * 65536) / d ≤ -s := by
    have h := Int.ediv_mul_le (-s * 65536) (show d ≠ 0 by omega)
    have h3 : (-s * 65536) / d * 65536 ≤ (-s * 65536) / d * d := Int.mul_le_mul_of_nonneg_left d1 q0
    omega
  refine ⟨?_, by omega, fun e => by subst e; omega⟩
  unfold divZ
  rw [e1, e2, if_neg (by omega), e3]
  have e4 : wrap64 (-((-s * 65536) / d)) = -((-s * 65536) / d) := by
    generalize (-s * 65536) / d = q at *
    simp only [wrap64, IntKind.wrap, IntKind.bits, IntKind.signed, IntKind.min, IntKind.max]
    omega
  rw [e4]
  exact clampZ_of (by omega) (by omega)

theorem low_mono {s d e : Int} (h2 : s ≤ 0) (d1 : 65536 ≤ d) (h : d ≤ e) : -((-s * 65536) / d) ≤ -((-s * 65536) / e) := by
  have q0 : 0 ≤ (-s * 65536) / e := Int.ediv_nonneg (by omega) (by omega)
  have h1 := Int.ediv_mul_le (-s * 65536) (show e ≠ 0 by omega)
  have h3 : (-s * 65536) / e * d ≤ (-s * 65536) / e * e := Int.mul_le_mul_of_nonneg_left h q0
  have h4 : (-s * 65536) / e ≤ (-s * 65536) / d := (Int.le_ediv_iff_mul_le (by omega)).2 (by omega)
  omega

/-- what BeamLong asks of final scores -/
theorem long_plain (s p : Int) (x y : Nat) (h1 : -2147483648 ≤ s) (h2 : s ≤ 0) (hxy : x ≤ y) : 
    divZ s (65536 + 4096 * (min 64 (max 0 p)) * (min 1000 (x : Int))) ≤ divZ s (65536 + 4096 * (min 64 (max 0 p)) * (min 1000 (y : Int))) ∧ divZ s (65536 + 4096 * (min 64 (max 0 0)) * (min 1000 (x : Int))) = s ∧ s ≤ divZ s (65536 + 4096 * (min 64 (max 0 p)) * (min 1000 (x : Int))) := by
  obtain ⟨P, eP⟩ : ∃ P, min 64 (max 0 p) = P := ⟨_, rfl⟩
  obtain ⟨X, eX⟩ : ∃ N, min 1000 (x : Int) = N := ⟨_, rfl⟩
  obtain ⟨Y, eY⟩ : ∃ N, min 1000 (y : Int) = N := ⟨_, rfl⟩
  have hP : 0 ≤ P ∧ P ≤ 64 := by omega
  have hX : 0 ≤ X ∧ X ≤ 1000 := by omega
  have hY : 0 ≤ Y ∧ Y ≤ 1000 := by omega
  have hXY : X ≤ Y := by omega
  have b1 := pen_bounds hP.1 hP.2 hX.1 hX.2
  have b2 := pen_bounds hP.1 hP.2 hY.1 hY.2
  have m1 : 4096 * P * X ≤ 4096 * P * Y := Int.mul_le_mul_of_nonneg_left hXY (by omega)
  have e0 : 4096 * (min 64 (max 0 0)) * X = 0 := by rw [show min (64 : Int) (max 0 0) = 0 by decide]; simp
  rw [eP, eX, eY, e0]
  obtain ⟨f1, f2, f3⟩ := divZ_low (s := s) (d := 65536 + 4096 * P * X) h1 h2 (by omega) (by omega)
  obtain ⟨g1, g2, g3⟩ := divZ_low (s := s) (d := 65536 + 4096 * P * Y) h1 h2 (by omega) (by omega)
  obtain ⟨k1, k2, k3⟩ := divZ_low (s := s) (d := 65536 + 0) h1 h2 (by omega) (by omega)
  rw [f1, g1, k1]
  exact ⟨low_mono h2 (by omega) (by omega), k3 (by omega), f2⟩

end Go.Proofs.Yteeljnibglnflaa
