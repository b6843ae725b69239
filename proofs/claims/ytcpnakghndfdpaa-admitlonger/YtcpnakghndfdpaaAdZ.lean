/- How many pages an answer needs at most: the plain words. -/
import Derived.Test.YtcpnakghndfdpaaRows
import Derived.Test.YtcpnakghndfdpaaView
import Derived.Test.YtcpnakghndfdpaaCfg
import Derived.Test.YtcpnakghndfdpaaCfgs
import Derived.Test.YtcpnakghndfdpaaCfgRef
import Derived.Test.YtcpnakghndfdpaaAskA
import Derived.Test.YtcpnakghndfdpaaAskC
import Derived.Test.YtcpnakghndfdpaaAskE
import Derived.Test.YtcpnakghndfdpaaCkSizes
import Derived.Test.YtcpnakghndfdpaaMdSmall
import Derived.Test.YtcpnakghndfdpaaPlain
import Derived.Test.YtcpnakghndfdpaaAdP
import Derived.WalkKit
import Derived.ProofKit
import Derived.OpenShut
import Derived.Below
import Derived.WalkLawsBesides
import Derived.Deep.QuietTactic
import Derived.BigQuiet
namespace Go.Proofs.Ytcpnakghndfdpaa
set_option maxRecDepth 20000
open Go.ChangeShapes Go.WideShapes Go.ChangeAt Go.RowKit
set_option linter.unusedVariables false
set_option linter.unusedSimpArgs false

theorem check_zero {c : Cq} {q : Aq} {zs : List Int} (h : checkZ c q zs = 0) : (q.n : Int) ≤ 24 ∧ (0 ≤ q.L ∧ q.L ≤ 24 ∨ q.k = 4) ∧ (q.k = 3 → 0 ≤ q.B ∧ q.B ≤ 4) := by
  unfold checkZ at h
  split at h
  · rename_i h1
    split at h
    · cases h
    · rename_i h2
      simp only [Bool.and_eq_true] at h1
      have hk := h1.2.2
      have hl : longZ q = false := by simpa using h2
      unfold longZ at hl
      by_cases k4 : q.k = 4
      · rw [if_pos k4] at hl
        exact ⟨by simpa using hl, .inr k4, fun h3 => by omega⟩
      · rw [if_neg k4] at hl
        have hL := kind_L hk (by simpa using k4)
        have hl' : q.L ≤ 24 - (q.n : Int) := by simpa using hl
        refine ⟨by omega, .inl (by omega), fun h3 => ?_⟩
        unfold kindZ at hk
        rw [if_neg k4, if_pos h3] at hk
        simp [triesZ] at hk
        omega
  · cases h
/-- a row's width -/
def Cq.wide (c : Cq) : Int := widthZ c.d c.h c.l c.v c.u c.x c.t c.n
theorem check_ok {c : Cq} {q : Aq} {zs : List Int} (h : checkZ c q zs = 0) : c.ok = true := by
  unfold checkZ at h
  split at h
  · rename_i h1
    simp only [Bool.and_eq_true] at h1
    exact h1.1
  · cases h
theorem wide_of {c : Cq} {q : Aq} {zs : List Int} (h : checkZ c q zs = 0) : 4 ≤ c.wide ∧ c.wide ≤ 32 := by
  have ok : okB c.d c.h c.l c.v c.u c.x c.t c.n = true := check_ok h
  have r := right_of ok
  have d0 := r.d0; have l0 := r.l0
  unfold Cq.wide widthZ
  rw [if_pos ok]
  refine ⟨?_, (width_bounds ok).2.2.2⟩
  have p := Int.mul_le_mul (show 4 ≤ 2 * c.d by omega) l0 (by omega) (by omega)
  omega
theorem rows_bounds {q : Aq} (hn : (q.n : Int) ≤ 24) (hL : 0 ≤ q.L ∧ q.L ≤ 24 ∨ q.k = 4) : 0 ≤ rowsZ q ∧ rowsZ q ≤ 48 := by
  unfold rowsZ
  split <;> omega
theorem seqs_bounds {c : Cq} {q : Aq} {zs : List Int} (h : checkZ c q zs = 0) : 1 ≤ seqsZ q ∧ seqsZ q ≤ 4 := by
  unfold seqsZ
  split
  · rename_i h3
    unfold checkZ at h
    split at h
    · rename_i h1
      simp only [Bool.and_eq_true] at h1
      have hk := h1.2.2
      unfold kindZ at hk
      rw [if_neg (by omega), if_pos h3] at hk
      simp [triesZ] at hk
      omega
    · cases h
  · omega
theorem need_bounds {k : Int} (h : k ≤ 9223372036854775807) : 0 ≤ needZ k ∧ needZ k ≤ 288230376151711744 := by
  unfold needZ
  split <;> omega
/-- how many pages an answer needs at most, beside the model's -/
def wantZ (c : Cq) (q : Aq) (zs : List Int) (k : Int) : Int :=
  if checkZ c q zs = 0 then seqsZ q * pagesZ (rowsZ q) c.wide + needZ k + (if 1 < seqsZ q then seqsZ q else 0) else 0

end Go.Proofs.Ytcpnakghndfdpaa
