/- What each function of package knob, and each of the document's answers, gives back: contracts of the calls, whatever the world. -/
import Derived.Test.YtcpnakghndfdpaaRows
import Derived.Test.YtcpnakghndfdpaaKnFloats
import Derived.Laws.FloatArith
import Derived.WalkKit
import Derived.ProofKit
import Derived.OpenShut
import Derived.WalkLawsBesides
import Derived.Laws.Externs
namespace Go.Proofs.Ytcpnakghndfdpaa

set_option maxRecDepth 20000

open Go.ChangeShapes Go.WideShapes Go.ChangeAt Go.RowKit

set_option linter.unusedVariables false

theorem ret_bool {a b : Bool} (h : a = b) : Ending.returned (.bool a) = .returned (.bool b) := by rw [h]

/-! ### The words of a comparison, by units -/
theorem f64_order (a b : Nat) : FloatKind.f64.format.order a b = Ieee.double.order a b := rfl

theorem cmp_lt {a b : Nat} (ha : isN a = false) (hb : isN b = false) : (FloatKind.f64.format.order a b == some .lt) = decide (K a < K b) := by
  rw [f64_order, order_K ha hb]
  rcases Int.lt_trichotomy (K a) (K b) with h | h | h
  · rw [Int.compare_eq_lt.2 h, decide_eq_true h]; rfl
  · rw [Int.compare_eq_eq.2 h, decide_eq_false (by omega)]; rfl
  · rw [Int.compare_eq_gt.2 h, decide_eq_false (by omega)]; rfl

theorem cmp_eq {a b : Nat} (ha : isN a = false) (hb : isN b = false) : (FloatKind.f64.format.order a b == some .eq) = decide (K a = K b) := by
  rw [f64_order, order_K ha hb]
  rcases Int.lt_trichotomy (K a) (K b) with h | h | h
  · rw [Int.compare_eq_lt.2 h, decide_eq_false (by omega)]; rfl
  · rw [Int.compare_eq_eq.2 h, decide_eq_true h]; rfl
  · rw [Int.compare_eq_gt.2 h, decide_eq_false (by omega)]; rfl

theorem cmp_gt {a b : Nat} (ha : isN a = false) (hb : isN b = false) : (FloatKind.f64.format.order a b == some .gt) = decide (K b < K a) := by
  rw [f64_order, order_K ha hb]
  rcases Int.lt_trichotomy (K a) (K b) with h | h | h
  · rw [Int.compare_eq_lt.2 h, decide_eq_false (by omega)]; rfl
  · rw [Int.compare_eq_eq.2 h, decide_eq_false (by omega)]; rfl
  · rw [Int.compare_eq_gt.2 h, decide_eq_true h]; rfl

theorem cmp_le {a b : Nat} (ha : isN a = false) (hb : isN b = false) : (FloatKind.f64.format.order a b == some .lt || FloatKind.f64.format.order a b == some .eq) = decide (K a ≤ K b) := by
  rw [cmp_lt ha hb, cmp_eq ha hb, ← Bool.decide_or]
  exact decide_eq_decide.2 (by omega)

theorem cmp_ge {a b : Nat} (ha : isN a = false) (hb : isN b = false) : (FloatKind.f64.format.order a b == some .gt || FloatKind.f64.format.order a b == some .eq) = decide (K b ≤ K a) := by
  rw [cmp_gt ha hb, cmp_eq ha hb, ← Bool.decide_or]
  exact decide_eq_decide.2 (by omega)

theorem cmp_self (x : Nat) : (FloatKind.f64.format.order x x == some .eq) = !isN x := by
  cases h : isN x
  · rw [cmp_eq h h, decide_eq_true rfl]; rfl
  · rw [f64_order, order_nan_left h]; rfl

theorem cmp_self_ne (x : Nat) : (FloatKind.f64.format.order x x != some .eq) = isN x := by
  unfold bne
  rw [cmp_self, Bool.not_not]

def evenB (x : Nat) : Nat := FloatKind.f64.encode ((FloatKind.f64.decode x).integral .even)

theorem even_run {x : Nat} (hx : Fin64 x) (w : World) : (callFunc 46 #[.float .f64 x]).run Try.prog w = .ok (.value (.float .f64 (evenB x))) w := by
  rw [run_callFunc_extern Try.func46 (by kernel_rfl) (by kernel_rfl) (by kernel_rfl) (e := Extern.MathFloor.toIntegral "math.RoundToEven" .even) (by kernel_rfl)]
  obtain ⟨m, a, e1, _, _, _⟩ := read_fin hx
  have ed : FloatKind.f64.decode x = .number (sg x) m ((a : Int) - 1074) := e1
  have er : Extern.MathFloor.toIntegral "math.RoundToEven" .even #[.float .f64 x] = pure (.float .f64 (evenB x)) := by
    unfold evenB
    show (match FloatKind.f64.decode x with | .nan s t => _ | d => _) = _
    rw [ed]
  rw [er]
  rfl

theorem isNaN_call (x : Nat) (w : World) :
    Calls Try.prog 45 #[.float .f64 x] w fun e w' => e = .returned (.bool (isN x)) ∧ w' = w := by
  have hs := cmp_self_ne x
  go_enter Try.func45, Try.ntmps45
  go_wp2
  all_goals (go_ret; refine ⟨ret_bool ?_, rfl⟩)
  all_goals first | rfl | exact hs

end Go.Proofs.Ytcpnakghndfdpaa
