/- The small functions: ranges, sizes, a layer's lists. -/
import Derived.Test.YtbmlafgolmmekabRows
import Derived.Test.YtbmlafgolmmekabView
import Derived.Test.YtbmlafgolmmekabOwn
import Derived.Test.YtbmlafgolmmekabCfg
import Derived.Test.YtbmlafgolmmekabCfgs
import Derived.Test.YtbmlafgolmmekabCfgRef
import Derived.Test.YtbmlafgolmmekabHeld
import Derived.Test.YtbmlafgolmmekabReader
import Derived.Test.YtbmlafgolmmekabSls
import Derived.Test.YtbmlafgolmmekabSteps
import Derived.Test.YtbmlafgolmmekabInv
import Derived.Test.YtbmlafgolmmekabTyped
import Derived.Test.YtbmlafgolmmekabAds
import Derived.WalkKit
import Derived.ProofKit
import Derived.OpenShut
import Derived.Below
import Derived.WalkLawsBesides
import Derived.Deep.QuietTactic
import Derived.BigQuiet
import Derived.Lib.QuietBelow
import Derived.Deep.RegionHeld3
namespace Go.Proofs.Ytbmlafgolmmekab
open Go.ChangeShapes Go.WideShapes Go.ChangeAt Go.RowKit
set_option linter.unusedVariables false

theorem inRange_walk (B : Bool) (R S d h l v u x t n : Int) (w : World)
    (k36 : ∀ w, Calls Try.prog 22 #[.agg #[.int .i64 d, .int .i64 h, .int .i64 l, .int .i64 v, .int .i64 u, .int .i64 x, .int .i64 t, .int .i64 n]] w fun e w' => e = .returned (.bool B) ∧ Below w.heap.size w w') (V : Bool) (hV : (B && (decide (1 ≤ R) && (decide (R ≤ 4) && (decide (0 ≤ S) && decide (S ≤ 8))))) = V) :
    Calls Try.prog 26 #[.int .i64 R, .int .i64 S, .agg #[.int .i64 d, .int .i64 h, .int .i64 l, .int .i64 v, .int .i64 u, .int .i64 x, .int .i64 t, .int .i64 n]] w fun e w' => e = .returned (.bool V) ∧ Below w.heap.size w w' := by
  have hb := below_new (Below.refl w.heap.size w) (.cells #[.int .i64 d, .int .i64 h, .int .i64 l, .int .i64 v, .int .i64 u, .int .i64 x, .int .i64 t, .int .i64 n] 26)
  subst hV
  cases B with
  | false =>
    go_enter Try.func26, Try.ntmps26
    go_wp2_with (first | (go_at_call 22; refine (k36 _).mono ?_; rintro e W1 ⟨rfl, h1⟩; replace hb := below_then hb h1; clear h1))
    go_ret
    exact ⟨rfl, hb⟩
  | true =>
    by_cases r1 : 1 ≤ R
    · by_cases r2 : R ≤ 4
      · by_cases r3 : 0 ≤ S
        · simp only [r1, r2, r3, decide_true, Bool.true_and]
          go_enter Try.func26, Try.ntmps26
          go_wp2_with (first | (go_at_call 22; refine (k36 _).mono ?_; rintro e W1 ⟨rfl, h1⟩; replace hb := below_then hb h1; clear h1))
          go_ret
          exact ⟨rfl, hb⟩
        · simp only [r1, r2, r3, decide_true, decide_false, Bool.and_false, Bool.false_and]
          go_enter Try.func26, Try.ntmps26
          go_wp2_with (first | (go_at_call 22; refine (k36 _).mono ?_; rintro e W1 ⟨rfl, h1⟩; replace hb := below_then hb h1; clear h1))
          go_ret
          exact ⟨rfl, hb⟩
      · simp only [r1, r2, decide_true, decide_false, Bool.and_false, Bool.false_and]
        go_enter Try.func26, Try.ntmps26
        go_wp2_with (first | (go_at_call 22; refine (k36 _).mono ?_; rintro e W1 ⟨rfl, h1⟩; replace hb := below_then hb h1; clear h1))
        go_ret
        exact ⟨rfl, hb⟩
    · simp only [r1, decide_false, Bool.and_false, Bool.false_and]
      go_enter Try.func26, Try.ntmps26
      go_wp2_with (first | (go_at_call 22; refine (k36 _).mono ?_; rintro e W1 ⟨rfl, h1⟩; replace hb := below_then hb h1; clear h1))
      go_ret
      exact ⟨rfl, hb⟩

theorem inRange_call (R S d h l v u x t n : Int) (w : World) :
    Calls Try.prog 26 #[.int .i64 R, .int .i64 S, .agg #[.int .i64 d, .int .i64 h, .int .i64 l, .int .i64 v, .int .i64 u, .int .i64 x, .int .i64 t, .int .i64 n]] w fun e w' => e = .returned (.bool (okA R S d h l v u x t n)) ∧ Below w.heap.size w w' :=
  inRange_walk (okB d h l v u x t n) R S d h l v u x t n w (config_call d h l v u x t n) _ rfl

theorem refRanges_walk (B : Bool) (R S d h l v u x t n : Int) (w : World)
    (k41 : ∀ w, Calls Try.prog 6 #[.agg #[.int .i64 d, .int .i64 h, .int .i64 l, .int .i64 v, .int .i64 u, .int .i64 x, .int .i64 t, .int .i64 n]] w fun e w' => e = .returned (.bool B) ∧ Below w.heap.size w w') (V : Bool) (hV : (B && (decide (1 ≤ R) && (decide (R ≤ 4) && (decide (0 ≤ S) && decide (S ≤ 8))))) = V) :
    Calls Try.prog 16 #[.int .i64 R, .int .i64 S, .agg #[.int .i64 d, .int .i64 h, .int .i64 l, .int .i64 v, .int .i64 u, .int .i64 x, .int .i64 t, .int .i64 n]] w fun e w' => e = .returned (.bool V) ∧ Below w.heap.size w w' := by
  have hb := below_new (Below.refl w.heap.size w) (.cells #[.int .i64 d, .int .i64 h, .int .i64 l, .int .i64 v, .int .i64 u, .int .i64 x, .int .i64 t, .int .i64 n] 26)
  subst hV
  cases B with
  | false =>
    go_enter Try.func16, Try.ntmps16
    go_wp2_with (first | (go_at_call 6; refine (k41 _).mono ?_; rintro e W1 ⟨rfl, h1⟩; replace hb := below_then hb h1; clear h1))
    go_ret
    exact ⟨rfl, hb⟩
  | true =>
    by_cases r1 : 1 ≤ R
    · by_cases r2 : R ≤ 4
      · by_cases r3 : 0 ≤ S
        · simp only [r1, r2, r3, decide_true, Bool.true_and]
          go_enter Try.func16, Try.ntmps16
          go_wp2_with (first | (go_at_call 6; refine (k41 _).mono ?_; rintro e W1 ⟨rfl, h1⟩; replace hb := below_then hb h1; clear h1))
          go_ret
          exact ⟨rfl, hb⟩
        · simp only [r1, r2, r3, decide_true, decide_false, Bool.and_false, Bool.false_and]
          go_enter Try.func16, Try.ntmps16
          go_wp2_with (first | (go_at_call 6; refine (k41 _).mono ?_; rintro e W1 ⟨rfl, h1⟩; replace hb := below_then hb h1; clear h1))
          go_ret
          exact ⟨rfl, hb⟩
      · simp only [r1, r2, decide_true, decide_false, Bool.and_false, Bool.false_and]
        go_enter Try.func16, Try.ntmps16
        go_wp2_with (first | (go_at_call 6; refine (k41 _).mono ?_; rintro e W1 ⟨rfl, h1⟩; replace hb := below_then hb h1; clear h1))
        go_ret
        exact ⟨rfl, hb⟩
    · simp only [r1, decide_false, Bool.and_false, Bool.false_and]
      go_enter Try.func16, Try.ntmps16
      go_wp2_with (first | (go_at_call 6; refine (k41 _).mono ?_; rintro e W1 ⟨rfl, h1⟩; replace hb := below_then hb h1; clear h1))
      go_ret
      exact ⟨rfl, hb⟩

theorem refRanges_call (R S d h l v u x t n : Int) (w : World) :
    Calls Try.prog 16 #[.int .i64 R, .int .i64 S, .agg #[.int .i64 d, .int .i64 h, .int .i64 l, .int .i64 v, .int .i64 u, .int .i64 x, .int .i64 t, .int .i64 n]] w fun e w' => e = .returned (.bool (okA R S d h l v u x t n)) ∧ Below w.heap.size w w' :=
  refRanges_walk (okB d h l v u x t n) R S d h l v u x t n w (refConfig_call d h l v u x t n) _ rfl

/-- the layers' count, the rank and Dim of what is right -/
structure RightA (R S d l : Int) : Prop where
  r0 : 1 ≤ R
  r1 : R ≤ 4
  s0 : 0 ≤ S
  s1 : S ≤ 8
  d0 : 2 ≤ d
  d1 : d ≤ 8
  l0 : 1 ≤ l
  l1 : l ≤ 2

theorem listSize_call (R d h l v u x t n : Int) (N : Int) (hN : R * d = N) (h0 : -9223372036854775808 ≤ N) (h1 : N ≤ 9223372036854775807) (w : World) :
    Calls Try.prog 28 #[.int .i64 R, .agg #[.int .i64 d, .int .i64 h, .int .i64 l, .int .i64 v, .int .i64 u, .int .i64 x, .int .i64 t, .int .i64 n]] w fun e w' => e = .returned (.int .i64 N) ∧ Below w.heap.size w w' := by
  have hb := below_new (Below.refl w.heap.size w) (.cells #[.int .i64 d, .int .i64 h, .int .i64 l, .int .i64 v, .int .i64 u, .int .i64 x, .int .i64 t, .int .i64 n] 26)
  go_enter Try.func28, Try.ntmps28
  go_wp2
  go_ret
  exact ⟨rfl, hb⟩

theorem info57 : (Try.prog.info? 57).map (fun i => (i.zero, i.size, i.bytes)) = some (some (.pointer none), 1, 8) := by kernel_rfl

theorem index_all (p0 p1 p2 p3 : Value) : (∀ w : World, (Instr.index 58 (.agg #[p0, p1, p2, p3]) (.int .i64 0)).run Try.prog w = .ok p0 w) ∧ (∀ w : World, (Instr.index 58 (.agg #[p0, p1, p2, p3]) (.int .i64 1)).run Try.prog w = .ok p1 w) ∧ (∀ w : World, (Instr.index 58 (.agg #[p0, p1, p2, p3]) (.int .i64 2)).run Try.prog w = .ok p2 w) ∧ (∀ w : World, (Instr.index 58 (.agg #[p0, p1, p2, p3]) (.int .i64 3)).run Try.prog w = .ok p3 w) := by
  obtain ⟨i, hi, hzz⟩ := Option.map_eq_some_iff.1 info57
  simp only [Prod.mk.injEq] at hzz
  refine ⟨?_, ?_, ?_, ?_⟩ <;> intro w <;> simp [Instr.index, run_underlying Try.underlying58, asIntOf, go_sem, typeInfo, sizeOf, hi, hzz.2.1]

set_option maxHeartbeats 2000000 in
theorem lists_call (P : Addr) (w : World) : Calls Try.prog 27 #[.pointer (some P)] w fun e w' => e = .returned (.agg #[.pointer (some P), .pointer (some ⟨P.block, P.off + 1, none⟩), .pointer (some ⟨P.block, P.off + 2, none⟩), .pointer (some ⟨P.block, P.off + 3, none⟩)]) ∧ Below w.heap.size w w' := by
  go_enter Try.func27, Try.ntmps27
  go_wp2
  go_region_held3 (fun W => True) (trivial) (first | fail)
  go_wp2
  refine bodyPost_ret (v := .agg #[.pointer (some P), .pointer (some ⟨P.block, P.off + 1, none⟩), .pointer (some ⟨P.block, P.off + 2, none⟩), .pointer (some ⟨P.block, P.off + 3, none⟩)]) ?_ rfl ⟨rfl, below_drew (below_new (Below.refl _ w) _) ⟨1, rfl⟩⟩
  simp [results, Try.results27, go_sem]

end Go.Proofs.Ytbmlafgolmmekab
