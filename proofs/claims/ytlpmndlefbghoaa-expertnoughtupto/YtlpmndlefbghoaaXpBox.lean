/- A case in a variable of its own. -/
import Derived.Test.YtlpmndlefbghoaaRows
import Derived.Test.YtlpmndlefbghoaaView
import Derived.Test.YtlpmndlefbghoaaXpNeed
import Derived.WalkKit
import Derived.ProofKit
import Derived.OpenShut
import Derived.Below
import Derived.WalkLawsBesides
import Derived.Deep.QuietTactic
import Derived.BigQuiet
namespace Go.Proofs.Ytlpmndlefbghoaa
open Go.ChangeShapes Go.WideShapes Go.ChangeAt Go.RowKit
set_option linter.unusedVariables false
set_option linter.unusedSimpArgs false

theorem run_field26_0 (b : Nat) (w : World) : (Instr.fieldAt 26 (.pointer (some ⟨b, 0, none⟩)) 0).run Try.prog w = .ok (.pointer (some ⟨b, 0, none⟩)) w := by go_simp
theorem run_field26_1 (b : Nat) (w : World) : (Instr.fieldAt 26 (.pointer (some ⟨b, 0, none⟩)) 1).run Try.prog w = .ok (.pointer (some ⟨b, 1, none⟩)) w := by go_simp
theorem run_field26_2 (b : Nat) (w : World) : (Instr.fieldAt 26 (.pointer (some ⟨b, 0, none⟩)) 2).run Try.prog w = .ok (.pointer (some ⟨b, 2, none⟩)) w := by go_simp
theorem run_field26_3 (b : Nat) (w : World) : (Instr.fieldAt 26 (.pointer (some ⟨b, 0, none⟩)) 3).run Try.prog w = .ok (.pointer (some ⟨b, 3, none⟩)) w := by go_simp
theorem run_field26_4 (b : Nat) (w : World) : (Instr.fieldAt 26 (.pointer (some ⟨b, 0, none⟩)) 4).run Try.prog w = .ok (.pointer (some ⟨b, 4, none⟩)) w := by go_simp
theorem run_field26_5 (b : Nat) (w : World) : (Instr.fieldAt 26 (.pointer (some ⟨b, 0, none⟩)) 5).run Try.prog w = .ok (.pointer (some ⟨b, 5, none⟩)) w := by go_simp

/-- the cells of a case's variable, and what calls that only lay new blocks leave of them -/
theorem case_cells {w W : World} {ra ua da xa : Option Addr} {rn rc un uc dn dc xn xc : Nat} {h k : Int} (hb : Below (w.alloc (.cells #[.slice ra rn rc, .slice ua un uc, .slice da dn dc, .int .i64 h, .int .i64 k, .slice xa xn xc] 26)).heap.size (w.alloc (.cells #[.slice ra rn rc, .slice ua un uc, .slice da dn dc, .int .i64 h, .int .i64 k, .slice xa xn xc] 26)) W) :
    W.cell? ⟨w.heap.size, 0, none⟩ = some (.slice ra rn rc) ∧ W.cell? ⟨w.heap.size, 1, none⟩ = some (.slice ua un uc) ∧ W.cell? ⟨w.heap.size, 2, none⟩ = some (.slice da dn dc) ∧ W.cell? ⟨w.heap.size, 3, none⟩ = some (.int .i64 h) ∧ W.cell? ⟨w.heap.size, 4, none⟩ = some (.int .i64 k) ∧ W.cell? ⟨w.heap.size, 5, none⟩ = some (.slice xa xn xc) ∧ Below w.heap.size w W := by
  have hs : w.heap.size < (w.alloc (.cells #[.slice ra rn rc, .slice ua un uc, .slice da dn dc, .int .i64 h, .int .i64 k, .slice xa xn xc] 26)).heap.size := by simp
  have key : ∀ i, W.cell? ⟨w.heap.size, i, none⟩ = (#[.slice ra rn rc, .slice ua un uc, .slice da dn dc, .int .i64 h, .int .i64 k, .slice xa xn xc] : Array Value)[i]? := fun i => (hb.cell hs).trans (by rw [World.cell?_alloc_new])
  exact ⟨key 0, key 1, key 2, key 3, key 4, key 5, (below_new (Below.refl _ w) _).trans (hb.mono (by omega))⟩

/-- a second name for a boxed case's facts: from a later world on -/
theorem case_after {w W1 W : World} {ra ua da xa : Option Addr} {rn rc un uc dn dc xn xc : Nat} {h k : Int} (h1 : Below (w.alloc (.cells #[.slice ra rn rc, .slice ua un uc, .slice da dn dc, .int .i64 h, .int .i64 k, .slice xa xn xc] 26)).heap.size (w.alloc (.cells #[.slice ra rn rc, .slice ua un uc, .slice da dn dc, .int .i64 h, .int .i64 k, .slice xa xn xc] 26)) W1) (hb : Below W1.heap.size W1 W) :
    Below (w.alloc (.cells #[.slice ra rn rc, .slice ua un uc, .slice da dn dc, .int .i64 h, .int .i64 k, .slice xa xn xc] 26)).heap.size (w.alloc (.cells #[.slice ra rn rc, .slice ua un uc, .slice da dn dc, .int .i64 h, .int .i64 k, .slice xa xn xc] 26)) W := below_then h1 hb

end Go.Proofs.Ytlpmndlefbghoaa
