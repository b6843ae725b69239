/- What each function of package knob, and each of the document's answers, gives back: contracts of the calls, whatever the world. -/
import Derived.Test.YtcjenapnnldboaaRows
import Derived.Test.YtcjenapnnldboaaRound
import Derived.WalkKit
import Derived.ProofKit
import Derived.OpenShut
import Derived.WalkLawsBesides
import Derived.Laws.Externs
namespace Go.Proofs.Ytcjenapnnldboaa
open Go.ChangeShapes Go.WideShapes Go.ChangeAt Go.RowKit
set_option linter.unusedVariables false

theorem ret_int {k : IntKind} {a b : Int} (h : a = b) : Ending.returned (.int k a) = .returned (.int k b) := by rw [h]
theorem ret_bool {a b : Bool} (h : a = b) : Ending.returned (.bool a) = .returned (.bool b) := by rw [h]
theorem wrap64_eq (n : Int) : wrap64 n = (n + 9223372036854775808) % 18446744073709551616 - 9223372036854775808 := by unfold wrap64; rfl

/-! ### The words of a comparison, by units -/
theorem f64_order (a b : Nat) : FloatKind.f64.format.order a b = Ieee.double.order a b := rfl

theorem cmp_lt {a b : Nat} (ha : isN a = false) (hb : isN b = false) : (FloatKind.f64.format.order a b == some .lt) = decide (K a < K b) := by
  rw [f64_order, order_K ha hb]
  rcases Int.lt_trichotomy (K a) (K b) with h | h | h
  · rw [Int.compare_eq_lt.2 h, decide_eq_true h]; rfl
  · rw [Int.compare_eq_eq.2 h, decide_eq_false (by omega)]; rfl
  · rw [Int.compare_eq_gt.2 h, decide_eq_false (by omega)]; rfl

theorem cmp_eq {a b : Nat} (ha : isN a = false) (hb : isN b = false) : (FloatKind.f64.format.order a b == some .eq) = decide (K a = K b) := by
  rw [f64_order, order_K ha hb]
  rcases Int.lt_trichotomy (K a) (K b) with h | h | h
  · rw [Int.compare_eq_lt.2 h, decide_eq_false (by omega)]; rfl
  · rw [Int.compare_eq_eq.2 h, decide_eq_true h]; rfl
  · rw [Int.compare_eq_gt.2 h, decide_eq_false (by omega)]; rfl

theorem cmp_gt {a b : Nat} (ha : isN a = false) (hb : isN b = false) : (FloatKind.f64.format.order a b == some .gt) = decide (K b < K a) := by
  rw [f64_order, order_K ha hb]
  rcases Int.lt_trichotomy (K a) (K b) with h | h | h
  · rw [Int.compare_eq_lt.2 h, decide_eq_false (by omega)]; rfl
  · rw [Int.compare_eq_eq.2 h, decide_eq_false (by omega)]; rfl
  · rw [Int.compare_eq_gt.2 h, decide_eq_true h]; rfl

theorem cmp_le {a b : Nat} (ha : isN a = false) (hb : isN b = false) : (FloatKind.f64.format.order a b == some .lt || FloatKind.f64.format.order a b == some .eq) = decide (K a ≤ K b) := by
  rw [cmp_lt ha hb, cmp_eq ha hb, ← Bool.decide_or]
  exact decide_eq_decide.2 (by omega)

theorem cmp_ge {a b : Nat} (ha : isN a = false) (hb : isN b = false) : (FloatKind.f64.format.order a b == some .gt || FloatKind.f64.format.order a b == some .eq) = decide (K b ≤ K a) := by
  rw [cmp_gt ha hb, cmp_eq ha hb, ← Bool.decide_or]
  exact decide_eq_decide.2 (by omega)

theorem cmp_self (x : Nat) : (FloatKind.f64.format.order x x == some .eq) = !isN x := by
  cases h : isN x
  · rw [cmp_eq h h, decide_eq_true rfl]; rfl
  · rw [f64_order, order_nan_left h]; rfl

theorem cmp_self_ne (x : Nat) : (FloatKind.f64.format.order x x != some .eq) = isN x := by
  unfold bne
  rw [cmp_self, Bool.not_not]

/-! ### Go's own functions on bits -/
theorem bits_run (x : Nat) (w : World) : (callFunc 24 #[.float .f64 x]).run Try.prog w = .ok (.value (.int .u64 x)) w := by
  rw [run_callFunc_extern Try.func24 (by kernel_rfl) (by kernel_rfl) (by kernel_rfl) (e := Extern.MathFloatBits.float64bits) (by kernel_rfl)]
  rfl

theorem frombits_run (n : Int) (w : World) : (callFunc 19 #[.int .u64 n]).run Try.prog w = .ok (.value (.float .f64 n.toNat)) w := by
  rw [run_callFunc_extern Try.func19 (by kernel_rfl) (by kernel_rfl) (by kernel_rfl) (e := Extern.MathFloatBits.float64frombits) (by kernel_rfl)]
  rfl

def evenB (x : Nat) : Nat := FloatKind.f64.encode ((FloatKind.f64.decode x).integral .even)

theorem even_run {x : Nat} (hx : Fin64 x) (w : World) : (callFunc 23 #[.float .f64 x]).run Try.prog w = .ok (.value (.float .f64 (evenB x))) w := by
  rw [run_callFunc_extern Try.func23 (by kernel_rfl) (by kernel_rfl) (by kernel_rfl) (e := Extern.MathFloor.toIntegral "math.RoundToEven" .even) (by kernel_rfl)]
  obtain ⟨m, a, e1, _, _, _⟩ := read_fin hx
  have ed : FloatKind.f64.decode x = .number (sg x) m ((a : Int) - 1074) := e1
  have er : Extern.MathFloor.toIntegral "math.RoundToEven" .even #[.float .f64 x] = pure (.float .f64 (evenB x)) := by
    unfold evenB
    show (match FloatKind.f64.decode x with | .nan s t => _ | d => _) = _
    rw [ed]
  rw [er]
  rfl

theorem sg_wrap (x : Nat) (h : x < 2 ^ 64) : decide (wrap64 (x : Int) < 0) = sg x := by
  unfold sg
  rw [wrap64_eq, Bool.eq_iff_iff, decide_eq_true_eq, beq_iff_eq]
  omega

theorem lt_of_wf {x : Nat} (h : (Lit.float .f64 x).wf = true) : x < 2 ^ 64 := by
  unfold Lit.wf at h
  simpa using h

theorem signbit_call (x : Nat) (hx : (Lit.float .f64 x).wf = true) (w : World) :
    Calls Try.prog 13 #[.float .f64 x] w fun e w' => e = .returned (.bool (sg x)) ∧ w' = w := by
  have hs := sg_wrap x (lt_of_wf hx)
  have hb := bits_run x
  go_enter Try.func13, Try.ntmps13
  go_wp2
  all_goals (go_ret; refine ⟨ret_bool ?_, rfl⟩)
  all_goals first | rfl | exact hs

theorem isNaN_call (x : Nat) (w : World) :
    Calls Try.prog 22 #[.float .f64 x] w fun e w' => e = .returned (.bool (isN x)) ∧ w' = w := by
  have hs := cmp_self_ne x
  go_enter Try.func22, Try.ntmps22
  go_wp2
  all_goals (go_ret; refine ⟨ret_bool ?_, rfl⟩)
  all_goals first | rfl | exact hs

/-! ### Same and Less -/
def sameB (a b : Nat) : Bool := (isN a && isN b) || (!isN a && !isN b && decide (K a = K b) && sg a == sg b)
def lessB (a b : Nat) : Bool := if isN a || isN b then isN a && !isN b else if K a = K b then sg a && !sg b else decide (K a < K b)

theorem same_call (a b : Nat) (ha : (Lit.float .f64 a).wf = true) (hb : (Lit.float .f64 b).wf = true) (w : World) :
    Calls Try.prog 14 #[.float .f64 a, .float .f64 b] w fun e w' => e = .returned (.bool (sameB a b)) ∧ w' = w := by
  cases na : isN a
  · cases nb : isN b
    · have hs := cmp_eq na nb
      by_cases k : K a = K b
      · rw [decide_eq_true k] at hs
        have e : sameB a b = (sg a == sg b) := by unfold sameB; rw [na, nb, decide_eq_true k]; rfl
        rw [e]
        go_enter Try.func14, Try.ntmps14
        go_wp2_with (first | (go_at_call 22; refine (isNaN_call _ _).mono ?_; rintro e w' ⟨rfl, rfl⟩) | (go_at_call 13; refine (signbit_call _ (by assumption) _).mono ?_; rintro e w' ⟨rfl, rfl⟩))
        all_goals (go_ret; exact ⟨rfl, rfl⟩)
      · rw [decide_eq_false k] at hs
        have e : sameB a b = false := by unfold sameB; rw [na, nb, decide_eq_false k]; rfl
        rw [e]
        go_enter Try.func14, Try.ntmps14
        go_wp2_with (first | (go_at_call 22; refine (isNaN_call _ _).mono ?_; rintro e w' ⟨rfl, rfl⟩) | (go_at_call 13; refine (signbit_call _ (by assumption) _).mono ?_; rintro e w' ⟨rfl, rfl⟩))
        all_goals (go_ret; exact ⟨rfl, rfl⟩)
    · have e : sameB a b = false := by unfold sameB; rw [na, nb]; rfl
      rw [e]
      go_enter Try.func14, Try.ntmps14
      go_wp2_with (first | (go_at_call 22; refine (isNaN_call _ _).mono ?_; rintro e w' ⟨rfl, rfl⟩) | (go_at_call 13; refine (signbit_call _ (by assumption) _).mono ?_; rintro e w' ⟨rfl, rfl⟩))
      all_goals (go_ret; exact ⟨rfl, rfl⟩)
  · have e : sameB a b = isN b := by unfold sameB; rw [na]; cases isN b <;> rfl
    rw [e]
    go_enter Try.func14, Try.ntmps14
    go_wp2_with (first | (go_at_call 22; refine (isNaN_call _ _).mono ?_; rintro e w' ⟨rfl, rfl⟩) | (go_at_call 13; refine (signbit_call _ (by assumption) _).mono ?_; rintro e w' ⟨rfl, rfl⟩))
    all_goals (go_ret; exact ⟨rfl, rfl⟩)

theorem less_call (a b : Nat) (ha : (Lit.float .f64 a).wf = true) (hb : (Lit.float .f64 b).wf = true) (w : World) :
    Calls Try.prog 16 #[.float .f64 a, .float .f64 b] w fun e w' => e = .returned (.bool (lessB a b)) ∧ w' = w := by
  cases na : isN a
  · cases nb : isN b
    · have hs := cmp_eq na nb
      have hl := cmp_lt na nb
      by_cases k : K a = K b
      · rw [decide_eq_true k] at hs
        have e : lessB a b = (sg a && !sg b) := by unfold lessB; rw [na, nb, if_neg (by decide), if_pos k]
        rw [e]
        cases sa : sg a
        all_goals go_enter Try.func16, Try.ntmps16
        all_goals go_wp2_with (first | (go_at_call 22; refine (isNaN_call _ _).mono ?_; rintro e w' ⟨rfl, rfl⟩) | (go_at_call 13; refine (signbit_call _ (by assumption) _).mono ?_; rintro e w' ⟨rfl, rfl⟩))
        all_goals (go_ret; exact ⟨rfl, rfl⟩)
      · rw [decide_eq_false k] at hs
        have e : lessB a b = decide (K a < K b) := by unfold lessB; rw [na, nb, if_neg (by decide), if_neg k]
        rw [e]
        go_enter Try.func16, Try.ntmps16
        go_wp2_with (first | (go_at_call 22; refine (isNaN_call _ _).mono ?_; rintro e w' ⟨rfl, rfl⟩) | (go_at_call 13; refine (signbit_call _ (by assumption) _).mono ?_; rintro e w' ⟨rfl, rfl⟩))
        all_goals (go_ret; exact ⟨rfl, rfl⟩)
    · have e : lessB a b = false := by unfold lessB; rw [na, nb]; rfl
      rw [e]
      go_enter Try.func16, Try.ntmps16
      go_wp2_with (first | (go_at_call 22; refine (isNaN_call _ _).mono ?_; rintro e w' ⟨rfl, rfl⟩) | (go_at_call 13; refine (signbit_call _ (by assumption) _).mono ?_; rintro e w' ⟨rfl, rfl⟩))
      all_goals (go_ret; exact ⟨rfl, rfl⟩)
  · have e : lessB a b = !isN b := by unfold lessB; rw [na]; cases isN b <;> rfl
    rw [e]
    go_enter Try.func16, Try.ntmps16
    go_wp2_with (first | (go_at_call 22; refine (isNaN_call _ _).mono ?_; rintro e w' ⟨rfl, rfl⟩) | (go_at_call 13; refine (signbit_call _ (by assumption) _).mono ?_; rintro e w' ⟨rfl, rfl⟩))
    all_goals (go_ret; exact ⟨rfl, rfl⟩)

/-! ### The document's order -/
def rankZ (x : Nat) : Int := if isN x then 0 else if K x < 0 then 1 else if 0 < K x then 4 else if sg x then 2 else 3

theorem not_zero : isN 0 = false := by decide +kernel
theorem K_zero : K 0 = 0 := by decide +kernel

theorem rank_call (x : Nat) (hx : (Lit.float .f64 x).wf = true) (w : World) :
    Calls Try.prog 25 #[.float .f64 x] w fun e w' => e = .returned (.int .i64 (rankZ x)) ∧ w' = w := by
  cases nx : isN x
  · have h0 := cmp_self_ne x
    have h1 := cmp_lt nx not_zero
    have h2 := cmp_gt nx not_zero
    rw [K_zero] at h1 h2
    rw [nx] at h0
    by_cases k1 : K x < 0
    · rw [decide_eq_true k1] at h1
      have e : rankZ x = 1 := by unfold rankZ; rw [nx, if_neg (by decide), if_pos k1]
      rw [e]
      go_enter Try.func25, Try.ntmps25
      go_wp2
      all_goals (go_ret; exact ⟨rfl, rfl⟩)
    · rw [decide_eq_false k1] at h1
      by_cases k2 : 0 < K x
      · rw [decide_eq_true k2] at h2
        have e : rankZ x = 4 := by unfold rankZ; rw [nx, if_neg (by decide), if_neg k1, if_pos k2]
        rw [e]
        go_enter Try.func25, Try.ntmps25
        go_wp2
        all_goals (go_ret; exact ⟨rfl, rfl⟩)
      · rw [decide_eq_false k2] at h2
        have e : rankZ x = if sg x then 2 else 3 := by unfold rankZ; rw [nx, if_neg (by decide), if_neg k1, if_neg k2]
        rw [e]
        cases sx : sg x
        all_goals go_enter Try.func25, Try.ntmps25
        all_goals go_wp2_with (go_at_call 13; refine (signbit_call _ (by assumption) _).mono ?_; rintro e w' ⟨rfl, rfl⟩)
        all_goals (go_ret; exact ⟨rfl, rfl⟩)
  · have h0 := cmp_self_ne x
    rw [nx] at h0
    have e : rankZ x = 0 := by unfold rankZ; rw [nx]; rfl
    rw [e]
    go_enter Try.func25, Try.ntmps25
    go_wp2
    all_goals (go_ret; exact ⟨rfl, rfl⟩)

end Go.Proofs.Ytcjenapnnldboaa
