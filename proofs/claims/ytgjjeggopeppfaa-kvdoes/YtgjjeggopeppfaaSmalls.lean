/- Texts put together: Rest, RunOps. -/
import Derived.Test.YtgjjeggopeppfaaRows
import Derived.WalkKit
import Derived.ProofKit
import Derived.OpenShut
import Derived.Below
import Derived.WalkLawsBesides
import Derived.Deep.QuietTactic
import Derived.BigQuiet
import Derived.Test.YtgjjeggopeppfaaSeqRN
namespace Go.Proofs.Ytgjjeggopeppfaa

/- The remainder of a number taken as one without a sign. -/
section
open Go.ChangeShapes Go.WideShapes Go.ChangeAt Go.RowKit
set_option linter.unusedVariables false
set_option linter.unusedSimpArgs false

theorem restN (x : Int) (n : Nat) (hn : 0 < n) : ∃ M : Nat, M < n ∧ (IntKind.u64.wrap x).tmod (n : Int) = (M : Int) ∧ IntKind.u64.wrap x % (n : Int) = (M : Int) := by
  have b : 0 ≤ IntKind.u64.wrap x := by rw [IntKind.wrap_u64]; omega
  generalize IntKind.u64.wrap x = U at *
  have h0 := Int.emod_nonneg U (show (n : Int) ≠ 0 by omega)
  have h1 := Int.emod_lt_of_pos U (show 0 < (n : Int) by omega)
  refine ⟨(U % (n : Int)).toNat, by omega, ?_, by omega⟩
  rw [Int.tmod_eq_emod_of_nonneg b]
  omega
end

/- Single operations: what their runs give. -/
section
open Go.ChangeShapes Go.WideShapes Go.ChangeAt Go.RowKit
set_option linter.unusedVariables false
set_option linter.unusedSimpArgs false

theorem wrap_in {z : Int} (h0 : -9223372036854775808 ≤ z) (h1 : z ≤ 9223372036854775807) : IntKind.i64.wrap z = z := by
  simp [IntKind.wrap, IntKind.signed, IntKind.bits]
  omega
theorem run_neq3 (x y : Int) (w : World) : (binOp .neq 3 (.int .i64 x) (.int .i64 y)).run Try.prog w = .ok (.bool (x != y)) w := by go_simp
theorem run_neq25 (x y : Int) (w : World) : (binOp .neq 25 (.int .i64 x) (.int .i64 y)).run Try.prog w = .ok (.bool (x != y)) w := by go_simp
theorem run_eql25 (x y : Int) (w : World) : (binOp .eql 25 (.int .i64 x) (.int .i64 y)).run Try.prog w = .ok (.bool (x == y)) w := by go_simp
theorem run_eql3 (x y : Int) (w : World) : (binOp .eql 3 (.int .i64 x) (.int .i64 y)).run Try.prog w = .ok (.bool (x == y)) w := by go_simp
theorem run_neq3_same (x : Int) (w : World) : (binOp .neq 3 (.int .i64 x) (.int .i64 x)).run Try.prog w = .ok (.bool false) w := by rw [run_neq3]; simp
theorem run_neq25_same (x : Int) (w : World) : (binOp .neq 25 (.int .i64 x) (.int .i64 x)).run Try.prog w = .ok (.bool false) w := by rw [run_neq25]; simp
theorem run_eql25_same (x : Int) (w : World) : (binOp .eql 25 (.int .i64 x) (.int .i64 x)).run Try.prog w = .ok (.bool true) w := by rw [run_eql25]; simp
theorem run_eql3_same (x : Int) (w : World) : (binOp .eql 3 (.int .i64 x) (.int .i64 x)).run Try.prog w = .ok (.bool true) w := by rw [run_eql3]; simp
theorem run_add3 (x y : Int) (h0 : -9223372036854775808 ≤ x + y) (h1 : x + y ≤ 9223372036854775807) (w : World) : (binOp .add 3 (.int .i64 x) (.int .i64 y)).run Try.prog w = .ok (.int .i64 (x + y)) w := by
  have := wrap_in h0 h1
  go_simp
theorem run_sub3 (x y : Int) (h0 : -9223372036854775808 ≤ x - y) (h1 : x - y ≤ 9223372036854775807) (w : World) : (binOp .sub 3 (.int .i64 x) (.int .i64 y)).run Try.prog w = .ok (.int .i64 (x - y)) w := by
  have := wrap_in h0 h1
  go_simp
theorem run_quo3 (x y : Nat) (hy : 1 ≤ y) (hx : x ≤ 1000000) (w : World) : (binOp .quo 3 (.int .i64 x) (.int .i64 y)).run Try.prog w = .ok (.int .i64 ((x / y : Nat) : Int)) w := by
  have h2 := wrap_nat (n := x / y) (by have := Nat.div_le_self x y; omega)
  rw [Int.natCast_ediv] at h2 ⊢
  go_simp
  omega
theorem run_ix37 (X : Addr) (n c : Nat) (k : Nat) (hk : k < n) (w : World) : (Instr.indexAt 37 (.slice (some X) n c) (.int .i64 k)).run Try.prog w = .ok (.pointer (some (X.add k))) w := by go_simp
theorem run_ix38 (X : Addr) (n c : Nat) (k : Nat) (hk : k < n) (w : World) : (Instr.indexAt 38 (.slice (some X) n c) (.int .i64 k)).run Try.prog w = .ok (.pointer (some (X.add k))) w := by go_simp
theorem run_fa41 (x k : Nat) (hk : k < 4) (w : World) : (Instr.fieldAt 41 (.pointer (some ⟨x, 0, none⟩)) k).run Try.prog w = .ok (.pointer (some ⟨x, k, none⟩)) w := by
  rcases (show k = 0 ∨ k = 1 ∨ k = 2 ∨ k = 3 by omega) with rfl | rfl | rfl | rfl <;> go_simp
theorem run_fa51 (x k : Nat) (hk : k < 6) (w : World) : (Instr.fieldAt 51 (.pointer (some ⟨x, 0, none⟩)) k).run Try.prog w = .ok (.pointer (some ⟨x, k, none⟩)) w := by
  rcases (show k = 0 ∨ k = 1 ∨ k = 2 ∨ k = 3 ∨ k = 4 ∨ k = 5 by omega) with rfl | rfl | rfl | rfl | rfl | rfl <;> go_simp
theorem run_load31 {w : World} {p : Addr} {v : Option Addr} (h : w.cell? p = some (.pointer v)) : (Instr.loadAt 31 (.pointer (some p))).run Try.prog w = .ok (.pointer v) w := by go_simp
theorem run_load34 {w : World} {p : Addr} {v : Option Addr} (h : w.cell? p = some (.pointer v)) : (Instr.loadAt 34 (.pointer (some p))).run Try.prog w = .ok (.pointer v) w := by go_simp
theorem run_load28 {w : World} {p : Addr} {v : Option Addr} (h : w.cell? p = some (.pointer v)) : (Instr.loadAt 28 (.pointer (some p))).run Try.prog w = .ok (.pointer v) w := by go_simp
theorem run_load49 {w : World} {p : Addr} {a : Option Addr} {n c : Nat} (h : w.cell? p = some (.slice a n c)) : (Instr.loadAt 49 (.pointer (some p))).run Try.prog w = .ok (.slice a n c) w := by go_simp
theorem run_load3 {w : World} {p : Addr} {z : Int} (h : w.cell? p = some (.int .i64 z)) : (Instr.loadAt 3 (.pointer (some p))).run Try.prog w = .ok (.int .i64 z) w := by go_simp
theorem run_load9 {w : World} {p : Addr} {t : ByteArray} (h : w.cell? p = some (.string t)) : (Instr.loadAt 9 (.pointer (some p))).run Try.prog w = .ok (.string t) w := by go_simp
end

end Go.Proofs.Ytgjjeggopeppfaa
