/- What one head makes of keys and values, as plain functions. -/
import Derived.Test.YthbddbipmoflfaaRows
import Derived.Test.YthbddbipmoflfaaSat
import Derived.Test.YthbddbipmoflfaaAdds
import Derived.Test.YthbddbipmoflfaaView
import Derived.Test.YthbddbipmoflfaaOwn
import Derived.Test.YthbddbipmoflfaaRoot
import Derived.Test.YthbddbipmoflfaaRef
import Derived.Test.YthbddbipmoflfaaSoft
import Derived.Test.YthbddbipmoflfaaMean
import Derived.Test.YthbddbipmoflfaaDots
import Derived.WalkKit
import Derived.ProofKit
import Derived.OpenShut
import Derived.Below
import Derived.WalkLawsBesides
import Derived.Deep.QuietTactic
import Derived.BigQuiet
namespace Go.Proofs.Ythbddbipmoflfaa
open Go.ChangeShapes Go.WideShapes Go.ChangeAt Go.RowKit
set_option linter.unusedVariables false

/-- there is a row that looks, there are rows to look at, as many values as keys, all of its length -/
def fitB (d n m : Nat) (K V : Nat → List Int) : Bool := decide (0 < d) && (decide (0 < n) && (decide (n = m) && (List.range n).all fun r => decide ((K r).length = d) && decide ((V r).length = d)))

theorem fitB_iff (d n m : Nat) (K V : Nat → List Int) : fitB d n m K V = true ↔ 0 < d ∧ 0 < n ∧ n = m ∧ ∀ r, r < n → (K r).length = d ∧ (V r).length = d := by
  simp [fitB]

theorem fitB_not {d n m : Nat} {K V : Nat → List Int} (h : fitB d n m K V = false) : ¬(0 < d ∧ 0 < n ∧ n = m ∧ ∀ r, r < n → (K r).length = d ∧ (V r).length = d) := fun e => by
  rw [(fitB_iff d n m K V).2 e] at h
  cases h

/-- how well key i fits the row that looks -/
def scoreF (q : List Int) (K : Nat → List Int) (d : Nat) (i : Nat) : Int := mulZ (dotZ q (K i) 16) (rsqrtZ ((d : Int) * 65536))
def scoresZ (q : List Int) (K : Nat → List Int) (d n : Nat) : List Int := (List.range n).map (scoreF q K d)

/-- place j of the first k values, each by its share, together -/
def blendTo (s : List Int) (V : Nat → List Int) (j : Nat) : Nat → Int
  | 0 => 0
  | k + 1 => addZ (blendTo s V j k) (s.getD k 0 * clampZ ((V k).getD j 0))

def blendZ (s : List Int) (V : Nat → List Int) (n j : Nat) : Int := clampZ (shiftZ (blendTo s V j n) 16)

/-- what one head makes of n keys and values -/
def headZ (q : List Int) (K V : Nat → List Int) (d n : Nat) : List Int := (List.range d).map (blendZ (softZ (scoresZ q K d n) n) V n)

def headE (d n m : Nat) (K V : Nat → List Int) : Int := if fitB d n m K V = true then 0 else 21
def headR (q : List Int) (K V : Nat → List Int) (d n m : Nat) : List Int := if fitB d n m K V = true then headZ q K V d n else []

theorem wf_blendTo (s : List Int) (V : Nat → List Int) (j k : Nat) : (Lit.int .i64 (blendTo s V j k)).wf = true := by
  cases k with
  | zero => show (Lit.int .i64 0).wf = true; decide
  | succ k => exact wf_addZ _ _

theorem wf_blendZ (s : List Int) (V : Nat → List Int) (n j : Nat) : (Lit.int .i64 (blendZ s V n j)).wf = true := wf_clampZ _

theorem wf_headZ (q : List Int) (K V : Nat → List Int) (d n : Nat) : ∀ z ∈ headZ q K V d n, (Lit.int .i64 z).wf = true := fun z hz => by
  obtain ⟨y, _, rfl⟩ := List.mem_map.1 hz
  exact wf_blendZ _ _ _ _

theorem headZ_length (q : List Int) (K V : Nat → List Int) (d n : Nat) : (headZ q K V d n).length = d := by simp [headZ]
theorem scoresZ_length (q : List Int) (K : Nat → List Int) (d n : Nat) : (scoresZ q K d n).length = n := by simp [scoresZ]

theorem mulZ_bounds (a b : Int) : -2147483648 ≤ mulZ a b ∧ mulZ a b ≤ 2147483647 := clampZ_bounds _
theorem wf_mulZ (a b : Int) : (Lit.int .i64 (mulZ a b)).wf = true := wf_clampZ _
theorem wf_dotZ (a b : List Int) (n : Int) : (Lit.int .i64 (dotZ a b n)).wf = true := wf_clampZ _

theorem rsqrtZ_bounds (x : Int) : 0 ≤ rsqrtZ x ∧ rsqrtZ x ≤ 2147483647 := by
  unfold rsqrtZ
  split
  · omega
  · have q := quot_bounds (clampZ x) (by omega)
    have s := rootZ_spec _ q.1 q.2
    refine ⟨s.1, ?_⟩
    rcases Int.lt_or_le 2147483647 (rootZ (281474976710656 / clampZ x)) with h | h
    · have : 2147483648 * 2147483648 ≤ rootZ (281474976710656 / clampZ x) * rootZ (281474976710656 / clampZ x) := Int.mul_le_mul (by omega) (by omega) (by omega) (by omega)
      omega
    · exact h

theorem wf_rsqrtZ (x : Int) : (Lit.int .i64 (rsqrtZ x)).wf = true := by
  have := rsqrtZ_bounds x
  exact WalkArith.wf_i64 ⟨by omega, by omega⟩

theorem softZ_bounds (z : List Int) (n k : Nat) : -2147483648 ≤ (softZ z n).getD k 0 ∧ (softZ z n).getD k 0 ≤ 2147483647 := by
  by_cases h : k < n
  · have e : (softZ z n).getD k 0 = shareF z (topZ (-2147483648) z n) (sumE z (topZ (-2147483648) z n) n) k := by simp [softZ, h]
    rw [e]
    unfold shareF divZ
    split
    · unfold noughtZ
      repeat' split
      all_goals omega
    · exact clampZ_bounds _
  · have e : (softZ z n).getD k 0 = 0 := by simp [softZ, h]
    rw [e]
    omega

theorem softZ_length (z : List Int) (n : Nat) : (softZ z n).length = n := by simp [softZ]

theorem blendTo_bounds (s : List Int) (V : Nat → List Int) (j k : Nat) : -9223372036854775808 ≤ blendTo s V j k ∧ blendTo s V j k ≤ 9223372036854775807 := bounds_i64 (wf_blendTo s V j k)

end Go.Proofs.Ythbddbipmoflfaa
