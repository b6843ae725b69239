/- Reads and writes of slices and numbers: their runs. -/
import Derived.Test.YtlpmndlefbghoaaRows
import Derived.Test.YtlpmndlefbghoaaView
import Derived.Test.YtlpmndlefbghoaaXpNeed
import Derived.WalkKit
import Derived.ProofKit
import Derived.OpenShut
import Derived.Below
import Derived.WalkLawsBesides
import Derived.Deep.QuietTactic
import Derived.BigQuiet
namespace Go.Proofs.Ytlpmndlefbghoaa
open Go.ChangeShapes Go.WideShapes Go.ChangeAt Go.RowKit
set_option linter.unusedVariables false
set_option linter.unusedSimpArgs false

theorem run_load22 {w : World} {p : Addr} {a : Option Addr} {n c : Nat} (h : w.cell? p = some (.slice a n c)) : (Instr.loadAt 22 (.pointer (some p))).run Try.prog w = .ok (.slice a n c) w := by go_simp
theorem run_load23 {w : World} {p : Addr} {a : Option Addr} {n c : Nat} (h : w.cell? p = some (.slice a n c)) : (Instr.loadAt 23 (.pointer (some p))).run Try.prog w = .ok (.slice a n c) w := by go_simp
theorem run_load24 {w : World} {p : Addr} {a : Option Addr} {n c : Nat} (h : w.cell? p = some (.slice a n c)) : (Instr.loadAt 24 (.pointer (some p))).run Try.prog w = .ok (.slice a n c) w := by go_simp
theorem run_load2 {w : World} {p : Addr} {z : Int} (h : w.cell? p = some (.int .i64 z)) : (Instr.loadAt 2 (.pointer (some p))).run Try.prog w = .ok (.int .i64 z) w := by go_simp
theorem run_load3 {w : World} {p : Addr} {z : Int} (h : w.cell? p = some (.int .i64 z)) : (Instr.loadAt 3 (.pointer (some p))).run Try.prog w = .ok (.int .i64 z) w := by go_simp
theorem run_store24 {w : World} {p : Addr} {u : Value} {a : Option Addr} {n c : Nat} (h : w.cell? p = some u) (hf : w.frozen? p = false) : (Instr.storeAt 24 (.pointer (some p)) (.slice a n c)).run Try.prog w = .ok () (w.setCell p (.slice a n c)) := by
  cases u <;> go_simp
theorem run_store2 {w : World} {p : Addr} {u : Value} {z : Int} (h : w.cell? p = some u) (hf : w.frozen? p = false) : (Instr.storeAt 2 (.pointer (some p)) (.int .i64 z)).run Try.prog w = .ok () (w.setCell p (.int .i64 z)) := by
  cases u <;> go_simp
theorem run_index23 (x : Addr) (n c k : Nat) (h : k < n) (w : World) : (Instr.indexAt 23 (.slice (some x) n c) (.int .i64 (k : Int))).run Try.prog w = .ok (.pointer (some (x.add k))) w := by
  have h' : (k : Int) < (n : Int) := by omega
  go_simp
theorem run_index23z (x : Addr) (n c : Nat) (h : 0 < n) (w : World) : (Instr.indexAt 23 (.slice (some x) n c) (.int .i64 0)).run Try.prog w = .ok (.pointer (some x)) w := by
  have h' : (0 : Int) < (n : Int) := by omega
  go_simp
theorem run_index23l (b n c k : Nat) (h : k < n) (w : World) : (Instr.indexAt 23 (.slice (some ⟨b, 0, none⟩) n c) (.int .i64 (k : Int))).run Try.prog w = .ok (.pointer (some ⟨b, k, none⟩)) w := by
  have h' : (k : Int) < (n : Int) := by omega
  go_simp
theorem run_index57 (x : Addr) (n c k : Nat) (h : k < n) (w : World) : (Instr.indexAt 57 (.slice (some x) n c) (.int .i64 (k : Int))).run Try.prog w = .ok (.pointer (some (x.add k))) w := by
  have h' : (k : Int) < (n : Int) := by omega
  go_simp
theorem run_index57z (x : Addr) (n c : Nat) (h : 0 < n) (w : World) : (Instr.indexAt 57 (.slice (some x) n c) (.int .i64 0)).run Try.prog w = .ok (.pointer (some x)) w := by
  have h' : (0 : Int) < (n : Int) := by omega
  go_simp
theorem run_index57l (b n c k : Nat) (h : k < n) (w : World) : (Instr.indexAt 57 (.slice (some ⟨b, 0, none⟩) n c) (.int .i64 (k : Int))).run Try.prog w = .ok (.pointer (some ⟨b, k, none⟩)) w := by
  have h' : (k : Int) < (n : Int) := by omega
  go_simp
theorem run_index24 (x : Addr) (n c k : Nat) (h : k < n) (w : World) : (Instr.indexAt 24 (.slice (some x) n c) (.int .i64 (k : Int))).run Try.prog w = .ok (.pointer (some (x.add k))) w := by
  have h' : (k : Int) < (n : Int) := by omega
  go_simp
theorem run_index24z (x : Addr) (n c : Nat) (h : 0 < n) (w : World) : (Instr.indexAt 24 (.slice (some x) n c) (.int .i64 0)).run Try.prog w = .ok (.pointer (some x)) w := by
  have h' : (0 : Int) < (n : Int) := by omega
  go_simp
theorem run_index24l (b n c k : Nat) (h : k < n) (w : World) : (Instr.indexAt 24 (.slice (some ⟨b, 0, none⟩) n c) (.int .i64 (k : Int))).run Try.prog w = .ok (.pointer (some ⟨b, k, none⟩)) w := by
  have h' : (k : Int) < (n : Int) := by omega
  go_simp
theorem run_index32 (x : Addr) (n c k : Nat) (h : k < n) (w : World) : (Instr.indexAt 32 (.slice (some x) n c) (.int .i64 (k : Int))).run Try.prog w = .ok (.pointer (some (x.add k))) w := by
  have h' : (k : Int) < (n : Int) := by omega
  go_simp
theorem run_index32z (x : Addr) (n c : Nat) (h : 0 < n) (w : World) : (Instr.indexAt 32 (.slice (some x) n c) (.int .i64 0)).run Try.prog w = .ok (.pointer (some x)) w := by
  have h' : (0 : Int) < (n : Int) := by omega
  go_simp
theorem run_index32l (b n c k : Nat) (h : k < n) (w : World) : (Instr.indexAt 32 (.slice (some ⟨b, 0, none⟩) n c) (.int .i64 (k : Int))).run Try.prog w = .ok (.pointer (some ⟨b, k, none⟩)) w := by
  have h' : (k : Int) < (n : Int) := by omega
  go_simp

end Go.Proofs.Ytlpmndlefbghoaa
