/- What Final answers, the program's and the document's: contracts of the calls. -/
import Derived.Test.YteeljnibglnflaaRows
import Derived.Test.YteeljnibglnflaaView
import Derived.Test.YteeljnibglnflaaSat
import Derived.Test.YteeljnibglnflaaSatRef
import Derived.Test.YteeljnibglnflaaBmZ
import Derived.WalkKit
import Derived.ProofKit
import Derived.OpenShut
import Derived.WalkLawsBesides
import Derived.Below
import Derived.Lib.MinMax
namespace Go.Proofs.Yteeljnibglnflaa
set_option maxRecDepth 20000
open Go.ChangeShapes Go.WideShapes Go.ChangeAt Go.RowKit
set_option linter.unusedVariables false

theorem pen_bounds {P N : Int} (h1 : 0 ≤ P) (h2 : P ≤ 64) (h3 : 0 ≤ N) (h4 : N ≤ 1000) : 0 ≤ 4096 * P * N ∧ 4096 * P * N ≤ 262144000 := by
  have a1 : 0 ≤ 4096 * P := by omega
  have a2 : 4096 * P ≤ 262144 := by omega
  exact ⟨Int.mul_nonneg a1 h3, by have := Int.mul_le_mul a2 h4 h3 (by omega); omega⟩

theorem wf_small {x : Int} (h1 : -1099511627776 ≤ x) (h2 : x ≤ 1099511627776) : (Lit.int .i64 x).wf = true := by
  simp only [Lit.wf, IntKind.min, IntKind.max, IntKind.signed, IntKind.bits]
  simp
  omega

theorem final_call (a : Option Addr) (n c : Nat) (s p : Int) (f : Bool) (hw : (Lit.int .i64 s).wf = true) (hn : n ≤ 9223372036854775807) (w : World) :
    Calls Try.prog 15 #[.agg #[.slice a n c, .int .i64 s, .bool f], .int .i64 p] w fun e w' => e = .returned (.int .i64 (divZ s (65536 + 4096 * (min 64 (max 0 p)) * (min 1000 (n : Int))))) ∧ Below w.heap.size w w' := by
  obtain ⟨P, eP⟩ : ∃ P, min (max p 0) 64 = P := ⟨_, rfl⟩
  obtain ⟨N, eN⟩ : ∃ N, min (n : Int) 1000 = N := ⟨_, rfl⟩
  have hP : 0 ≤ P ∧ P ≤ 64 := by omega
  have hN : 0 ≤ N ∧ N ≤ 1000 := by omega
  have hQ := pen_bounds hP.1 hP.2 hN.1 hN.2
  rw [show min 64 (max 0 p) = P by omega, show min 1000 (n : Int) = N by omega]
  obtain ⟨Q1, e1⟩ : ∃ Q1, 4096 * P = Q1 := ⟨_, rfl⟩
  rw [e1] at hQ ⊢
  obtain ⟨Q2, e2⟩ : ∃ Q2, Q1 * N = Q2 := ⟨_, rfl⟩
  rw [e2] at hQ ⊢
  have hQ1 : 0 ≤ Q1 ∧ Q1 ≤ 262144 := by omega
  obtain ⟨q1, q2⟩ := hQ
  obtain ⟨q3, q4⟩ := hQ1
  have kd := fun W => div_call s (65536 + Q2) hw (wf_small (by omega) (by omega)) W
  clear hP hN
  go_enter Try.func15, Try.ntmps15
  go_wp2_with (go_at_call 28; refine (kd _).mono ?_; rintro e w' ⟨rfl, h⟩; obtain rfl := h.symm)
  go_ret
  exact ⟨rfl, below_new (Below.refl _ _) _⟩

theorem refFinal_call (a : Option Addr) (n c : Nat) (s p : Int) (f : Bool) (hw : (Lit.int .i64 s).wf = true) (hn : n ≤ 9223372036854775807) (w : World) :
    Calls Try.prog 16 #[.agg #[.slice a n c, .int .i64 s, .bool f], .int .i64 p] w fun e w' => e = .returned (.int .i64 (divZ s (65536 + 4096 * (min 64 (max 0 p)) * (min 1000 (n : Int))))) ∧ Below w.heap.size w w' := by
  obtain ⟨P, eP⟩ : ∃ P, min 64 (max 0 p) = P := ⟨_, rfl⟩
  obtain ⟨N, eN⟩ : ∃ N, min 1000 (n : Int) = N := ⟨_, rfl⟩
  have hP : 0 ≤ P ∧ P ≤ 64 := by omega
  have hN : 0 ≤ N ∧ N ≤ 1000 := by omega
  have hQ := pen_bounds hP.1 hP.2 hN.1 hN.2
  rw [eP, eN]
  obtain ⟨Q1, e1⟩ : ∃ Q1, 4096 * P = Q1 := ⟨_, rfl⟩
  rw [e1] at hQ ⊢
  obtain ⟨Q2, e2⟩ : ∃ Q2, Q1 * N = Q2 := ⟨_, rfl⟩
  rw [e2] at hQ ⊢
  have hQ1 : 0 ≤ Q1 ∧ Q1 ≤ 262144 := by omega
  obtain ⟨q1, q2⟩ := hQ
  obtain ⟨q3, q4⟩ := hQ1
  have kd := fun W => refDiv_call s (65536 + Q2) hw (wf_small (by omega) (by omega)) W
  clear hP hN
  go_enter Try.func16, Try.ntmps16
  go_wp2_with (go_at_call 29; refine (kd _).mono ?_; rintro e w' ⟨rfl, h⟩; obtain rfl := h.symm)
  go_ret
  exact ⟨rfl, below_new (Below.refl _ _) _⟩

end Go.Proofs.Yteeljnibglnflaa
