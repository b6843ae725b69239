/- Rows of bools that are handed in. -/
import Derived.Test.YtfggkkhehaafcaaRows
import Derived.Test.YtfggkkhehaafcaaView
import Derived.Test.YtfggkkhehaafcaaOwn
import Derived.WalkKit
import Derived.ProofKit
import Derived.OpenShut
import Derived.Below
import Derived.WalkLawsBesides
import Derived.Deep.QuietTactic
import Derived.BigQuiet
import Derived.Deep.Grids
namespace Go.Proofs.Ytfggkkhehaafcaa
open Go.ChangeShapes Go.WideShapes Go.ChangeAt Go.RowKit
set_option linter.unusedVariables false
set_option linter.unusedSimpArgs false

/-- the first n cells from a on are these bools -/
structure ReadH (w : World) (a : Option Addr) (n : Nat) (B : Nat → Bool) : Prop where
  max : n ≤ 9223372036854775807
  some_ : 0 < n → ∃ x, a = some x
  cell : ∀ x, a = some x → ∀ i, i < n → w.cell? (x.add i) = some (.bool (B i))
theorem ReadH.below {w w' : World} {a : Option Addr} {n : Nat} {B : Nat → Bool} (h : ReadH w a n B) (hb : Below w.heap.size w w') : ReadH w' a n B :=
  ⟨h.max, h.some_, fun x hx i hi => by have c := h.cell x hx i hi; exact (hb.cell (World.block_lt_of_cell? w _ c)).trans c⟩
theorem open_hs {H : Type} {enc : TypeId × Value → H} {W : World} {a : Option Addr} {n c : Nat} {d : DataW H} {p : List MemPlace} (h : DataW.Trod enc Try.prog W 0 (fun _ => true) true 61 (.slice a n c) d p) : ∃ B : Nat → Bool, ReadH W a n B ∧ (a = none → c = 0) ∧ n ≤ c := by
  obtain ⟨fuel, hf⟩ := h
  rcases Go.Deep.open_bools Try.underlying61 Try.underlying4 (by kernel_rfl) hf with ⟨hcs, _⟩ | ⟨x, l, c', B, hcs, _, hl, hm, _, hcell⟩
  · simp [Value.cells] at hcs
    obtain ⟨rfl, rfl, rfl⟩ := hcs
    exact ⟨fun _ => false, ⟨by omega, fun h => by omega, fun _ h => by cases h⟩, fun _ => rfl, Nat.le_refl _⟩
  · simp [Value.cells] at hcs
    obtain ⟨rfl, rfl, rfl⟩ := hcs
    refine ⟨B, ⟨by unfold maxLen at hm; omega, fun _ => ⟨_, rfl⟩, fun y hy i hi => ?_⟩, fun h => (by cases h), hl⟩
    obtain rfl := Option.some.inj hy
    exact hcell i (by omega)

end Go.Proofs.Ytfggkkhehaafcaa
