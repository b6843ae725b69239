/- Single operations. -/
import Derived.Test.YteeljnibglnflaaRows
import Derived.Test.YteeljnibglnflaaView
import Derived.Test.YteeljnibglnflaaBmZ
import Derived.Test.YteeljnibglnflaaBmAt
import Derived.Test.YteeljnibglnflaaBmBox
import Derived.Test.YteeljnibglnflaaBmRun
import Derived.WalkKit
import Derived.ProofKit
import Derived.OpenShut
import Derived.WalkLawsBesides
import Derived.Below
import Derived.Deep.QuietTactic
import Derived.BigQuiet
import Derived.Laws.AppendOwnNone
import Derived.Lib.MinMax
namespace Go.Proofs.Yteeljnibglnflaa
set_option maxRecDepth 20000
open Go.ChangeShapes Go.WideShapes Go.ChangeAt Go.RowKit
set_option linter.unusedVariables false
set_option linter.unusedSimpArgs false

/-- the front of a row -/
theorem Reads.front {k : IntKind} {w : World} {a : Option Addr} {n : Nat} {zs : List Int} (h : Reads k w a n zs) {m : Nat} (hm : m ≤ n) : Reads k w a m (zs.take m) := by
  have hl := h.len
  have e : ∀ i, i < m → (zs.take m).getD i 0 = zs.getD i 0 := fun i hi => by simp [List.getD, hi]
  refine ⟨by rw [List.length_take]; omega, by have := h.max; omega, fun i => ?_, fun h0 => h.some_ (by omega), fun x hx i hi => by rw [e i hi]; exact h.cell x hx i (by omega)⟩
  by_cases hi : i < m
  · rw [e i hi]; exact h.wf i
  · rw [show (zs.take m).getD i 0 = 0 by rw [List.getD, List.getElem?_eq_none (by rw [List.length_take]; omega)]; rfl]; exact wf_nought k
theorem run_index29 (x : Addr) (L c N : Nat) (h : N < L) (w : World) : (Instr.indexAt 29 (.slice (some x) L c) (.int .i64 (N : Nat))).run Try.prog w = .ok (.pointer (some (x.add N))) w := by
  have h' : (N : Int) < (L : Int) := by omega
  go_simp
theorem run_len_lt (a b : Int) (h : ¬ a < b) (w : World) : (binOp .lss 3 (.int .i64 a) (.int .i64 b)).run Try.prog w = .ok (.bool false) w := by go_simp
theorem run_geq3 (a b : Int) (h : ¬ b ≤ a) (w : World) : (binOp .geq 3 (.int .i64 a) (.int .i64 b)).run Try.prog w = .ok (.bool false) w := by go_simp
theorem run_gtr3 (a b : Int) (h : ¬ b < a) (w : World) : (binOp .gtr 3 (.int .i64 a) (.int .i64 b)).run Try.prog w = .ok (.bool false) w := by go_simp
theorem run_gtr3t (a b : Int) (h : b < a) (w : World) : (binOp .gtr 3 (.int .i64 a) (.int .i64 b)).run Try.prog w = .ok (.bool true) w := by go_simp
theorem run_gtr2 (a b : Int) (h : ¬ b < a) (w : World) : (binOp .gtr 2 (.int .i64 a) (.int .i64 b)).run Try.prog w = .ok (.bool false) w := by go_simp
theorem run_neq2 (a : Int) (w : World) : (binOp .neq 2 (.int .i64 a) (.int .i64 a)).run Try.prog w = .ok (.bool false) w := by go_simp
theorem run_neq3 (a : Int) (w : World) : (binOp .neq 3 (.int .i64 a) (.int .i64 a)).run Try.prog w = .ok (.bool false) w := by go_simp
theorem run_neq4 (f : Bool) (w : World) : (binOp .neq 4 (.bool f) (.bool f)).run Try.prog w = .ok (.bool false) w := by cases f <;> go_simp
theorem run_eql3 (a : Int) (w : World) : (binOp .eql 3 (.int .i64 a) (.int .i64 a)).run Try.prog w = .ok (.bool true) w := by go_simp
theorem run_eql3f (a b : Int) (h : ¬ a = b) (w : World) : (binOp .eql 3 (.int .i64 a) (.int .i64 b)).run Try.prog w = .ok (.bool false) w := by go_simp
theorem run_geq3d (a b : Int) (w : World) : (binOp .geq 3 (.int .i64 a) (.int .i64 b)).run Try.prog w = .ok (.bool (decide (b ≤ a))) w := by go_simp
theorem wrap_small {K : Nat} (h : K ≤ 1000001) : IntKind.i64.wrap (K : Int) = (K : Int) := by rw [IntKind.wrap_i64]; omega
theorem run_sub1 (k K : Nat) (h : K + 1 = k) (hk : k ≤ 1000000) (w : World) : (binOp .sub 3 (.int .i64 (k : Nat)) (.int .i64 1)).run Try.prog w = .ok (.int .i64 (K : Nat)) w := by
  have h' : (k : Int) - 1 = (K : Int) := by omega
  have hw := wrap_small (K := K) (by omega)
  go_simp
theorem run_add1 (k K : Nat) (h : k + 1 = K) (hk : k ≤ 1000000) (w : World) : (binOp .add 3 (.int .i64 (k : Nat)) (.int .i64 1)).run Try.prog w = .ok (.int .i64 (K : Nat)) w := by
  have h' : (k : Int) + 1 = (K : Int) := by omega
  have hw := wrap_small (K := K) (by omega)
  go_simp
theorem run_cut29 (a : Option Addr) (n c k : Nat) (h : k ≤ n) (hc : n ≤ c) (w : World) : (Instr.sliceAt 29 (.slice a n c) none (some (.int .i64 (k : Nat))) none).run Try.prog w = .ok (.slice a k c) w := by
  have h' : (k : Int) ≤ (c : Int) := by omega
  have h'' : ¬ (c : Int) < (k : Int) := by omega
  cases a <;> go_simp
theorem run_max2 (a b : Int) (w : World) (ty : TypeId) : (Builtin.max_ #[2, 2] ty #[.int .i64 a, .int .i64 b]).run Try.prog w = .ok (.int .i64 (max a b)) w := by go_simp

end Go.Proofs.Yteeljnibglnflaa
