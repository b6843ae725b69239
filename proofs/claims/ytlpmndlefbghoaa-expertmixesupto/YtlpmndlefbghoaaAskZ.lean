/- Texts put together: XpPlain, XpMat. -/
import Derived.Test.YtlpmndlefbghoaaRows
import Derived.Test.YtlpmndlefbghoaaSat
import Derived.Test.YtlpmndlefbghoaaExp
import Derived.Test.YtlpmndlefbghoaaFitZ
import Derived.Test.YtlpmndlefbghoaaMats
import Derived.WalkKit
import Derived.ProofKit
import Derived.OpenShut
import Derived.Below
import Derived.WalkLawsBesides
import Derived.Deep.QuietTactic
import Derived.BigQuiet
import Derived.Test.YtlpmndlefbghoaaView
import Derived.Test.YtlpmndlefbghoaaOwn
import Derived.Test.YtlpmndlefbghoaaDotsRef
import Derived.Test.YtlpmndlefbghoaaMatsRef
namespace Go.Proofs.Ytlpmndlefbghoaa

/- What one network makes of a row: plain functions. -/
section
open Go.ChangeShapes Go.WideShapes Go.ChangeAt Go.RowKit
set_option linter.unusedVariables false
set_option linter.unusedSimpArgs false

/-- whether so many weights make so many rows of that width -/
def fitB (n : Nat) (r : Int) (d : Nat) : Bool := decide (0 < d ∧ n % d = 0 ∧ ((n / d : Nat) : Int) = r)
/-- the products of a matrix's rows with a row -/
def matL (ws xs : List Int) : List Int := (List.range (ws.length / xs.length)).map (rowZ ws xs.length xs)
/-- what lies within a network -/
def hidL (up xs : List Int) : List Int := (matL up xs).map siluZ
/-- whether a network fits a row -/
def oneB (up down : List Int) (h : Int) (xs : List Int) : Bool := fitB up.length h xs.length && fitB down.length (xs.length : Int) (hidL up xs).length
/-- what a network makes of a row -/
def oneL (up down xs : List Int) : List Int := matL down (hidL up xs)

theorem matL_length (ws xs : List Int) : (matL ws xs).length = ws.length / xs.length := by simp [matL]
theorem hidL_length (up xs : List Int) : (hidL up xs).length = up.length / xs.length := by simp [hidL, matL]

theorem fitB_yes {n d : Nat} {r : Int} (h : fitB n r d = true) : 0 < d ∧ n = n / d * d ∧ r = ((n / d : Nat) : Int) := by
  obtain ⟨h1, h2, h3⟩ := of_decide_eq_true h
  have := Nat.div_add_mod n d
  rw [h2, Nat.mul_comm] at this
  exact ⟨h1, by omega, h3.symm⟩

theorem oneL_length {up down xs : List Int} {h : Int} (hb : oneB up down h xs = true) : (oneL up down xs).length = xs.length := by
  unfold oneB at hb
  rw [Bool.and_eq_true] at hb
  have := (fitB_yes hb.2).2.2
  unfold oneL
  rw [matL_length]
  omega

theorem matL_at (ws xs : List Int) (j : Nat) (h : j < ws.length / xs.length) : (matL ws xs).getD j 0 = rowZ ws xs.length xs j := by
  simp [matL, List.getD, h]
theorem hidL_at (up xs : List Int) (j : Nat) (h : j < up.length / xs.length) : (hidL up xs).getD j 0 = siluZ (rowZ up xs.length xs j) := by
  simp [hidL, matL, List.getD, h]

/-- the numbers of a product are within 32 bits -/
theorem matL_bounds (ws xs : List Int) (j : Nat) : -2147483648 ≤ (matL ws xs).getD j 0 ∧ (matL ws xs).getD j 0 ≤ 2147483647 := by
  by_cases h : j < ws.length / xs.length
  · rw [matL_at _ _ _ h]
    exact clampZ_bounds _
  · have e : (matL ws xs).getD j 0 = 0 := by simp [matL, List.getD, h]
    rw [e]
    omega
end

/- The products of a matrix's rows with a row, in the plain functions' words: the contracts of both sides. -/
section
open Go.ChangeShapes Go.WideShapes Go.ChangeAt Go.RowKit
set_option linter.unusedVariables false
set_option linter.unusedSimpArgs false

theorem mat_yes (a0 : Option Addr) (n c0 : Nat) (ws : List Int) (r : Int) (a2 : Option Addr) (d c2 : Nat) (xs : List Int) (w : World)
    (h0 : Reads .i8 w a0 n ws) (hc : n ≤ c0) (h2 : Reads .i64 w a2 d xs) (hf : fitB n r d = true) (hb : n * 8 ≤ 140737488355328) :
    Calls Try.prog 38 #[.slice a0 n c0, .int .i64 r, .slice a2 d c2] w fun e w' => (∃ cs, e = .returned (.tuple #[.slice (some ⟨w.heap.size, 0, none⟩) (n / d) (n / d), .int .i64 0]) ∧ Reads .i64 w' (some ⟨w.heap.size, 0, none⟩) (n / d) (matL ws xs) ∧
      w'.ownsRow w.heap.size 2 1 (.slice (some ⟨w.heap.size, 0, none⟩) (n / d) (n / d)) (n / d) cs ∧ ∀ j, j < n / d → cs[j]? = some (.int .i64 (rowZ ws d xs j))) ∧ Below w.heap.size w w' := by
  obtain ⟨hd, hn, hr⟩ := fitB_yes hf
  have hle := Nat.div_le_self n d
  rw [hr]
  refine (mat_fits a0 n c0 ws (n / d) a2 d c2 xs w h0 hc h2 hd hn (by omega)).mono ?_
  rintro e w' ⟨⟨a, c, cs, he, hR, rfl, rfl, ho, hcs⟩, hB⟩
  refine ⟨⟨cs, he, ?_, ho, hcs⟩, hB⟩
  unfold matL
  rw [h0.len, h2.len]
  exact hR

theorem mat_no (a0 : Option Addr) (n c0 : Nat) (r : Int) (a2 : Option Addr) (d c2 : Nat) (w : World) (hm : n ≤ 9223372036854775807) (hm2 : d ≤ 9223372036854775807) (hr : (Lit.int .i64 r).wf = true) (hf : fitB n r d = false) :
    Calls Try.prog 38 #[.slice a0 n c0, .int .i64 r, .slice a2 d c2] w fun e w' => e = .returned (.tuple #[.slice none 0 0, .int .i64 21]) ∧ w' = w :=
  mat_not a0 n c0 r a2 d c2 w hm hm2 hr (of_decide_eq_false hf)

theorem refMat_yes (a0 : Option Addr) (n c0 : Nat) (ws : List Int) (r : Int) (a2 : Option Addr) (d c2 : Nat) (xs : List Int) (w : World)
    (h0 : Reads .i8 w a0 n ws) (hc : n ≤ c0) (h2 : Reads .i64 w a2 d xs) (hf : fitB n r d = true) (hb : n * 8 ≤ 140737488355328) :
    Calls Try.prog 19 #[.slice a0 n c0, .int .i64 r, .slice a2 d c2] w fun e w' => (∃ a c, e = .returned (.tuple #[.slice a (n / d) c, .int .i64 0]) ∧ Reads .i64 w' a (n / d) (matL ws xs) ∧ ∀ x, a = some x → w.heap.size ≤ x.block) ∧ Below w.heap.size w w' := by
  obtain ⟨hd, hn, hr⟩ := fitB_yes hf
  have hle := Nat.div_le_self n d
  rw [hr]
  refine (refMat_fits a0 n c0 ws (n / d) a2 d c2 xs w h0 hc h2 hd hn (by omega)).mono ?_
  rintro e w' ⟨⟨a, c, he, hR, fr⟩, hB⟩
  refine ⟨⟨a, c, he, ?_, fr⟩, hB⟩
  unfold matL
  rw [h0.len, h2.len]
  exact hR

theorem refMat_no (a0 : Option Addr) (n c0 : Nat) (r : Int) (a2 : Option Addr) (d c2 : Nat) (w : World) (hm : n ≤ 9223372036854775807) (hm2 : d ≤ 9223372036854775807) (hr : (Lit.int .i64 r).wf = true) (hf : fitB n r d = false) :
    Calls Try.prog 19 #[.slice a0 n c0, .int .i64 r, .slice a2 d c2] w fun e w' => e = .returned (.tuple #[.slice none 0 0, .int .i64 21]) ∧ w' = w :=
  refMat_not a0 n c0 r a2 d c2 w hm hm2 hr (of_decide_eq_false hf)
end

end Go.Proofs.Ytlpmndlefbghoaa
