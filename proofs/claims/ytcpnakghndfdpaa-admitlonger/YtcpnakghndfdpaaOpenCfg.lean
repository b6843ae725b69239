/- A configuration that is handed in: its eight numbers. -/
import Derived.Test.YtcpnakghndfdpaaRows
import Derived.WalkKit
import Derived.ProofKit
import Derived.OpenShut
import Derived.Below
import Derived.Deep.QuietTactic
import Derived.BigQuiet
import Derived.WalkLawsBesides
import Derived.Deep.RegionWith
import Derived.Lib.SmallJoins
namespace Go.Proofs.Ytcpnakghndfdpaa

set_option maxRecDepth 20000

open Go.ChangeShapes Go.WideShapes Go.ChangeAt Go.RowKit

set_option linter.unusedVariables false

theorem array8 {α : Type} {cs : Array α} (h : cs.size = 8) : ∃ c0 c1 c2 c3 c4 c5 c6 c7, cs = #[c0, c1, c2, c3, c4, c5, c6, c7] := by
  obtain ⟨l⟩ := cs
  match l, h with
  | [c0, c1, c2, c3, c4, c5, c6, c7], _ => exact ⟨c0, c1, c2, c3, c4, c5, c6, c7, rfl⟩

theorem cells31 : Try.prog.cellsOf 31 = 8 := by kernel_rfl

theorem cells3 : Try.prog.cellsOf 3 = 1 := by kernel_rfl

/-- eight cells that read as a configuration are eight numbers -/
theorem cfg_cells {H : Type} {enc : TypeId × Value → H} {W : World} {base fuel : Nat} {spare : Nat → Bool} {held : Bool} {c0 c1 c2 c3 c4 c5 c6 c7 : Value} {x : DataW H × List MemPlace}
    (h : DataW.trod enc Try.prog W base spare held fuel 31 [c0, c1, c2, c3, c4, c5, c6, c7] = some x) :
    ∃ d h l v u x t n : Int, c0 = .int .i64 d ∧ c1 = .int .i64 h ∧ c2 = .int .i64 l ∧ c3 = .int .i64 v ∧ c4 = .int .i64 u ∧ c5 = .int .i64 x ∧ c6 = .int .i64 t ∧ c7 = .int .i64 n := by
  obtain ⟨xs, n, -, -, -, hlen, hf⟩ := DataW.trod_struct Try.underlying31 h
  have one : ∀ (i : Nat) (f : Field) (c : Value), (#[c0, c1, c2, c3, c4, c5, c6, c7])[i]? = some c → f.type = 3 → ([c0, c1, c2, c3, c4, c5, c6, c7].drop f.offset).take (Try.prog.cellsOf f.type) = [c] → i < xs.length → DataW.trod enc Try.prog W base spare held n f.type (([c0, c1, c2, c3, c4, c5, c6, c7].drop f.offset).take (Try.prog.cellsOf f.type)) = xs[i]? → ∃ z : Int, c = .int .i64 z := fun i f c _ ht hc hi hh => by
    rw [hc, ht, List.getElem?_eq_getElem hi] at hh
    obtain ⟨z, ez, -, -⟩ := DataW.trod_int Try.underlying3 hh
    exact ⟨z, by simpa using ez⟩
  have hl : xs.length = 8 := hlen.trans (by rfl)
  obtain ⟨z0, e0⟩ := one 0 _ c0 rfl rfl (by show List.take (Try.prog.cellsOf 3) _ = _; rw [cells3]; rfl) (by omega) (hf 0 _ rfl)
  obtain ⟨z1, e1⟩ := one 1 _ c1 rfl rfl (by show List.take (Try.prog.cellsOf 3) _ = _; rw [cells3]; rfl) (by omega) (hf 1 _ rfl)
  obtain ⟨z2, e2⟩ := one 2 _ c2 rfl rfl (by show List.take (Try.prog.cellsOf 3) _ = _; rw [cells3]; rfl) (by omega) (hf 2 _ rfl)
  obtain ⟨z3, e3⟩ := one 3 _ c3 rfl rfl (by show List.take (Try.prog.cellsOf 3) _ = _; rw [cells3]; rfl) (by omega) (hf 3 _ rfl)
  obtain ⟨z4, e4⟩ := one 4 _ c4 rfl rfl (by show List.take (Try.prog.cellsOf 3) _ = _; rw [cells3]; rfl) (by omega) (hf 4 _ rfl)
  obtain ⟨z5, e5⟩ := one 5 _ c5 rfl rfl (by show List.take (Try.prog.cellsOf 3) _ = _; rw [cells3]; rfl) (by omega) (hf 5 _ rfl)
  obtain ⟨z6, e6⟩ := one 6 _ c6 rfl rfl (by show List.take (Try.prog.cellsOf 3) _ = _; rw [cells3]; rfl) (by omega) (hf 6 _ rfl)
  obtain ⟨z7, e7⟩ := one 7 _ c7 rfl rfl (by show List.take (Try.prog.cellsOf 3) _ = _; rw [cells3]; rfl) (by omega) (hf 7 _ rfl)
  exact ⟨z0, z1, z2, z3, z4, z5, z6, z7, e0, e1, e2, e3, e4, e5, e6, e7⟩

theorem open_cfg {H : Type} {enc : TypeId × Value → H} {W : World} {base b0 : Nat} {spare : Nat → Bool} {held : Bool} {r : Reach} {v : Value} {dd : DataW H} {p : List MemPlace} (hv : Value.okWide Try.prog W r b0 31 v) (h : DataW.Trod enc Try.prog W base spare held 31 v dd p) :
    ∃ d h l v' u x t n : Int, v = .agg #[.int .i64 d, .int .i64 h, .int .i64 l, .int .i64 v', .int .i64 u, .int .i64 x, .int .i64 t, .int .i64 n] := by
  obtain ⟨cs, rfl, hsz⟩ := okWide_struct Try.underlying31 hv
  obtain ⟨c0, c1, c2, c3, c4, c5, c6, c7, rfl⟩ := array8 (hsz.trans cells31)
  obtain ⟨fuel, hf⟩ := h
  obtain ⟨d, h, l, v, u, x, t, n, e0, e1, e2, e3, e4, e5, e6, e7⟩ := cfg_cells (by simpa [Value.cells] using hf)
  subst e0 e1 e2 e3 e4 e5 e6 e7
  exact ⟨d, h, l, v, u, x, t, n, rfl⟩

end Go.Proofs.Ytcpnakghndfdpaa
