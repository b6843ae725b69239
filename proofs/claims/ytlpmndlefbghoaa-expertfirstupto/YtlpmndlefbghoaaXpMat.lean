/- The products of a matrix's rows with a row, in the plain functions' words: the contracts of both sides. -/
import Derived.Test.YtlpmndlefbghoaaRows
import Derived.Test.YtlpmndlefbghoaaView
import Derived.Test.YtlpmndlefbghoaaOwn
import Derived.Test.YtlpmndlefbghoaaSat
import Derived.Test.YtlpmndlefbghoaaExp
import Derived.Test.YtlpmndlefbghoaaDots
import Derived.Test.YtlpmndlefbghoaaDotsRef
import Derived.Test.YtlpmndlefbghoaaFits
import Derived.Test.YtlpmndlefbghoaaMats
import Derived.Test.YtlpmndlefbghoaaMatsRef
import Derived.Test.YtlpmndlefbghoaaXpPlain
import Derived.WalkKit
import Derived.ProofKit
import Derived.OpenShut
import Derived.Below
import Derived.WalkLawsBesides
import Derived.Deep.QuietTactic
import Derived.BigQuiet
namespace Go.Proofs.Ytlpmndlefbghoaa
open Go.ChangeShapes Go.WideShapes Go.ChangeAt Go.RowKit
set_option linter.unusedVariables false
set_option linter.unusedSimpArgs false

theorem mat_yes (a0 : Option Addr) (n c0 : Nat) (ws : List Int) (r : Int) (a2 : Option Addr) (d c2 : Nat) (xs : List Int) (w : World)
    (h0 : Reads .i8 w a0 n ws) (hc : n ≤ c0) (h2 : Reads .i64 w a2 d xs) (hf : fitB n r d = true) (hb : n * 8 ≤ 140737488355328) :
    Calls Try.prog 38 #[.slice a0 n c0, .int .i64 r, .slice a2 d c2] w fun e w' => (∃ cs, e = .returned (.tuple #[.slice (some ⟨w.heap.size, 0, none⟩) (n / d) (n / d), .int .i64 0]) ∧ Reads .i64 w' (some ⟨w.heap.size, 0, none⟩) (n / d) (matL ws xs) ∧
      w'.ownsRow w.heap.size 2 1 (.slice (some ⟨w.heap.size, 0, none⟩) (n / d) (n / d)) (n / d) cs ∧ ∀ j, j < n / d → cs[j]? = some (.int .i64 (rowZ ws d xs j))) ∧ Below w.heap.size w w' := by
  obtain ⟨hd, hn, hr⟩ := fitB_yes hf
  have hle := Nat.div_le_self n d
  rw [hr]
  refine (mat_fits a0 n c0 ws (n / d) a2 d c2 xs w h0 hc h2 hd hn (by omega)).mono ?_
  rintro e w' ⟨⟨a, c, cs, he, hR, rfl, rfl, ho, hcs⟩, hB⟩
  refine ⟨⟨cs, he, ?_, ho, hcs⟩, hB⟩
  unfold matL
  rw [h0.len, h2.len]
  exact hR

theorem mat_no (a0 : Option Addr) (n c0 : Nat) (r : Int) (a2 : Option Addr) (d c2 : Nat) (w : World) (hm : n ≤ 9223372036854775807) (hm2 : d ≤ 9223372036854775807) (hr : (Lit.int .i64 r).wf = true) (hf : fitB n r d = false) :
    Calls Try.prog 38 #[.slice a0 n c0, .int .i64 r, .slice a2 d c2] w fun e w' => e = .returned (.tuple #[.slice none 0 0, .int .i64 21]) ∧ w' = w :=
  mat_not a0 n c0 r a2 d c2 w hm hm2 hr (of_decide_eq_false hf)

theorem refMat_yes (a0 : Option Addr) (n c0 : Nat) (ws : List Int) (r : Int) (a2 : Option Addr) (d c2 : Nat) (xs : List Int) (w : World)
    (h0 : Reads .i8 w a0 n ws) (hc : n ≤ c0) (h2 : Reads .i64 w a2 d xs) (hf : fitB n r d = true) (hb : n * 8 ≤ 140737488355328) :
    Calls Try.prog 19 #[.slice a0 n c0, .int .i64 r, .slice a2 d c2] w fun e w' => (∃ a c, e = .returned (.tuple #[.slice a (n / d) c, .int .i64 0]) ∧ Reads .i64 w' a (n / d) (matL ws xs) ∧ ∀ x, a = some x → w.heap.size ≤ x.block) ∧ Below w.heap.size w w' := by
  obtain ⟨hd, hn, hr⟩ := fitB_yes hf
  have hle := Nat.div_le_self n d
  rw [hr]
  refine (refMat_fits a0 n c0 ws (n / d) a2 d c2 xs w h0 hc h2 hd hn (by omega)).mono ?_
  rintro e w' ⟨⟨a, c, he, hR, fr⟩, hB⟩
  refine ⟨⟨a, c, he, ?_, fr⟩, hB⟩
  unfold matL
  rw [h0.len, h2.len]
  exact hR

theorem refMat_no (a0 : Option Addr) (n c0 : Nat) (r : Int) (a2 : Option Addr) (d c2 : Nat) (w : World) (hm : n ≤ 9223372036854775807) (hm2 : d ≤ 9223372036854775807) (hr : (Lit.int .i64 r).wf = true) (hf : fitB n r d = false) :
    Calls Try.prog 19 #[.slice a0 n c0, .int .i64 r, .slice a2 d c2] w fun e w' => e = .returned (.tuple #[.slice none 0 0, .int .i64 21]) ∧ w' = w :=
  refMat_not a0 n c0 r a2 d c2 w hm hm2 hr (of_decide_eq_false hf)

end Go.Proofs.Ytlpmndlefbghoaa
