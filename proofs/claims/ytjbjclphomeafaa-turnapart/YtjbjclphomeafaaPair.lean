/- What the program's turning of one pair gives back: the contract of the call; the row that Turn answers, as a plain function. -/
import Derived.Test.YtjbjclphomeafaaRows
import Derived.Test.YtjbjclphomeafaaSat
import Derived.Test.YtjbjclphomeafaaView
import Derived.Test.YtjbjclphomeafaaTabs
import Derived.WalkKit
import Derived.ProofKit
import Derived.OpenShut
import Derived.Below
import Derived.WalkLawsBesides
namespace Go.Proofs.Ytjbjclphomeafaa
open Go.ChangeShapes Go.WideShapes Go.ChangeAt Go.RowKit
set_option linter.unusedVariables false

def turnA (a b n : Int) : Int := clampZ (mulZ a (cosZ n) - mulZ b (sinZ n))
def turnB (a b n : Int) : Int := clampZ (mulZ a (sinZ n) + mulZ b (cosZ n))

theorem tabC_bounds : ∀ k : Nat, k < 16 → -65536 ≤ tabC.getD k 0 ∧ tabC.getD k 0 ≤ 65536 := by decide
theorem tabS_bounds : ∀ k : Nat, k < 16 → -65536 ≤ tabS.getD k 0 ∧ tabS.getD k 0 ≤ 65536 := by decide

theorem cosZ_bounds (n : Int) : -65536 ≤ cosZ n ∧ cosZ n ≤ 65536 := tabC_bounds _ (by unfold placeZ; omega)
theorem sinZ_bounds (n : Int) : -65536 ≤ sinZ n ∧ sinZ n ≤ 65536 := tabS_bounds _ (by unfold placeZ; omega)

theorem mulZ_bounds (a b : Int) : -2147483648 ≤ mulZ a b ∧ mulZ a b ≤ 2147483647 := clampZ_bounds _

set_option maxHeartbeats 1000000 in
theorem turned_call (a b n : Int) (ha : (Lit.int .i64 a).wf = true) (hb : (Lit.int .i64 b).wf = true) (w : World) :
    Calls Try.prog 15 #[.int .i64 a, .int .i64 b, .int .i64 n] w fun e w' => e = .returned (.tuple #[.int .i64 (turnA a b n), .int .i64 (turnB a b n)]) ∧ Below w.heap.size w w' := by
  have cb := cosZ_bounds n
  have sb := sinZ_bounds n
  have kc := fun W => cos_call n W
  have ks := fun W => sin_call n W
  unfold turnA turnB
  obtain ⟨C, eC⟩ : ∃ C, cosZ n = C := ⟨_, rfl⟩
  obtain ⟨S, eS⟩ : ∃ S, sinZ n = S := ⟨_, rfl⟩
  rw [eC] at cb kc ⊢
  rw [eS] at sb ks ⊢
  clear eC eS
  have wC : (Lit.int .i64 C).wf = true := WalkArith.wf_i64 ⟨by omega, by omega⟩
  have wS : (Lit.int .i64 S).wf = true := WalkArith.wf_i64 ⟨by omega, by omega⟩
  obtain ⟨p0, p1⟩ := mulZ_bounds a C
  obtain ⟨q0, q1⟩ := mulZ_bounds b S
  obtain ⟨r0, r1⟩ := mulZ_bounds a S
  obtain ⟨s0, s1⟩ := mulZ_bounds b C
  have hb := Below.refl w.heap.size w
  go_enter Try.func15, Try.ntmps15
  go_wp2_with (first
    | (go_at_call 20; refine (kc _).mono ?_; rintro e W1 ⟨rfl, hb1⟩)
    | (go_at_call 21; refine (ks _).mono ?_; rintro e W2 ⟨rfl, hb2⟩)
    | (go_at_call 22; refine (mul_call _ _ (by assumption) (by assumption) _).mono ?_; rintro e w' ⟨rfl, h⟩; obtain rfl := h.symm)
    | (go_at_call 23; refine (clamp_call _ _).mono ?_; rintro e w' ⟨rfl, h⟩; obtain rfl := h.symm))
  go_ret2
  exact ⟨rfl, below_then hb1 hb2⟩

end Go.Proofs.Ytjbjclphomeafaa
