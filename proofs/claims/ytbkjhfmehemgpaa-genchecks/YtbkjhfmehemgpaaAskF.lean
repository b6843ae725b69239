/- What an answer is counted at. -/
import Derived.Test.YtbkjhfmehemgpaaRows
import Derived.Test.YtbkjhfmehemgpaaView
import Derived.Test.YtbkjhfmehemgpaaCfgs
import Derived.Test.YtbkjhfmehemgpaaAskA
import Derived.Test.YtbkjhfmehemgpaaAskC
import Derived.Test.YtbkjhfmehemgpaaAskO
import Derived.WalkKit
import Derived.ProofKit
import Derived.OpenShut
import Derived.Below
import Derived.WalkLawsBesides
import Derived.Deep.QuietTactic
import Derived.BigQuiet
namespace Go.Proofs.Ytbkjhfmehemgpaa
set_option maxRecDepth 20000
open Go.ChangeShapes Go.WideShapes Go.ChangeAt Go.RowKit
set_option linter.unusedVariables false
set_option linter.unusedSimpArgs false

theorem cost_call (q : Aq) (w : World) (hn : (q.n : Int) ≤ 24) (hL : 0 ≤ q.L ∧ q.L ≤ 24 ∨ q.k = 4) (hB : q.k = 3 → 0 ≤ q.B ∧ q.B ≤ 4) :
    Calls Try.prog 9 #[q.w] w fun e w' => e = .returned (.int .i64 (rowsZ q * seqsZ q)) ∧ Below w.heap.size w w' := by
  have hb := below_new (Below.refl w.heap.size w) (.cells q.cs 28)
  have k := fun W => rows_call q W hn hL
  have q1 := Blk.new 28 w q.cs
  obtain ⟨a0, a1, a2, a3, a4, a5, a6, a7, a8⟩ := q1.ask
  have b1 : 0 ≤ rowsZ q ∧ rowsZ q ≤ 48 := by unfold rowsZ; split <;> omega
  have b2 : 0 ≤ seqsZ q ∧ seqsZ q ≤ 4 := by unfold seqsZ; split <;> omega
  obtain ⟨R, hR⟩ : ∃ R, rowsZ q = R := ⟨_, rfl⟩
  obtain ⟨S, hS⟩ : ∃ S, seqsZ q = S := ⟨_, rfl⟩
  rw [hR] at b1
  rw [hS] at b2
  simp only [hR, hS] at k ⊢
  clear hR hS
  have p1 : R * S ≤ 48 * 4 := by
    have := Int.mul_le_mul_of_nonneg_right b1.2 b2.1
    have := Int.mul_le_mul_of_nonneg_left b2.2 (show (0 : Int) ≤ 48 by decide)
    omega
  have p0 : 0 ≤ R * S := Int.mul_nonneg b1.1 b2.1
  have pw : IntKind.i64.wrap (R * S) = R * S := by rw [IntKind.wrap_i64]; omega
  clear b1 b2 p1 p0
  go_enter Try.func9, Try.ntmps9
  go_wp2_with (go_at_call 7; refine (k _).mono ?_; rintro e W1 ⟨rfl, h⟩; replace hb := below_then hb h; clear h)
  go_ret
  exact ⟨rfl, hb⟩
theorem refCost_call (q : Aq) (w : World) (hn : (q.n : Int) ≤ 24) (hL : 0 ≤ q.L ∧ q.L ≤ 24 ∨ q.k = 4) (hB : q.k = 3 → 0 ≤ q.B ∧ q.B ≤ 4) :
    Calls Try.prog 10 #[q.w] w fun e w' => e = .returned (.int .i64 (rowsZ q * seqsZ q)) ∧ Below w.heap.size w w' := by
  have hb := below_new (Below.refl w.heap.size w) (.cells q.cs 28)
  have k := fun W => refRows_call q W hn hL
  have q1 := Blk.new 28 w q.cs
  obtain ⟨a0, a1, a2, a3, a4, a5, a6, a7, a8⟩ := q1.ask
  have b1 : 0 ≤ rowsZ q ∧ rowsZ q ≤ 48 := by unfold rowsZ; split <;> omega
  have b2 : 0 ≤ seqsZ q ∧ seqsZ q ≤ 4 := by unfold seqsZ; split <;> omega
  obtain ⟨R, hR⟩ : ∃ R, rowsZ q = R := ⟨_, rfl⟩
  obtain ⟨S, hS⟩ : ∃ S, seqsZ q = S := ⟨_, rfl⟩
  rw [hR] at b1
  rw [hS] at b2
  simp only [hR, hS] at k ⊢
  clear hR hS
  have p1 : R * S ≤ 48 * 4 := by
    have := Int.mul_le_mul_of_nonneg_right b1.2 b2.1
    have := Int.mul_le_mul_of_nonneg_left b2.2 (show (0 : Int) ≤ 48 by decide)
    omega
  have p0 : 0 ≤ R * S := Int.mul_nonneg b1.1 b2.1
  have pw : IntKind.i64.wrap (R * S) = R * S := by rw [IntKind.wrap_i64]; omega
  clear b1 b2 p1 p0
  go_enter Try.func10, Try.ntmps10
  go_wp2_with (go_at_call 8; refine (k _).mono ?_; rintro e W1 ⟨rfl, h⟩; replace hb := below_then hb h; clear h)
  go_ret
  exact ⟨rfl, hb⟩

end Go.Proofs.Ytbkjhfmehemgpaa
