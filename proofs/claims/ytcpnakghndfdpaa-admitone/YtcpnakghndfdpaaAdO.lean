/- What is known of a request, as it is handed in. -/
import Derived.Test.YtcpnakghndfdpaaRows
import Derived.Test.YtcpnakghndfdpaaView
import Derived.Test.YtcpnakghndfdpaaCfgs
import Derived.Test.YtcpnakghndfdpaaAdF
import Derived.WalkKit
import Derived.ProofKit
import Derived.OpenShut
import Derived.Below
import Derived.WalkLawsBesides
import Derived.Deep.QuietTactic
import Derived.BigQuiet
import Derived.ChangeOld
import Derived.ChangeMaps5
import Derived.SizedLaws
import Derived.Deep.Slices
import Derived.Lib.SmallJoins
namespace Go.Proofs.Ytcpnakghndfdpaa
set_option maxRecDepth 20000
open Go.ChangeShapes Go.WideShapes Go.ChangeAt Go.RowKit
set_option linter.unusedVariables false
set_option linter.unusedSimpArgs false

theorem fc24 : Try.prog.cellsOf 24 = 9 := by kernel_rfl
theorem fc4 : Try.prog.cellsOf 4 = 1 := by kernel_rfl
theorem fc22 : Try.prog.cellsOf 22 = 1 := by kernel_rfl
theorem fc3 : Try.prog.cellsOf 3 = 1 := by kernel_rfl
theorem array9f {α : Type} {cs : Array α} (h : cs.size = 9) : ∃ c0 c1 c2 c3 c4 c5 c6 c7 c8, cs = #[c0, c1, c2, c3, c4, c5, c6, c7, c8] := by
  obtain ⟨l⟩ := cs
  match l, h with
  | [c0, c1, c2, c3, c4, c5, c6, c7, c8], _ => exact ⟨c0, c1, c2, c3, c4, c5, c6, c7, c8, rfl⟩
section
variable {H : Type} {enc : TypeId × Value → H} {W : World}
theorem facts_cells {fuel : Nat} {c0 c1 c2 c3 c4 c5 c6 c7 c8 : Value} {x : DataW H × List MemPlace} (h : DataW.trod enc Try.prog W 0 (fun _ => true) true fuel 24 [c0, c1, c2, c3, c4, c5, c6, c7, c8] = some x) :
    ∃ f, [c0, c1, c2, c3, c4, c5, c6, c7, c8] = (Fq.cs f).toList := by
  obtain ⟨xs, n, -, ex, -, hlen, hg⟩ := DataW.trod_struct Try.underlying24 h
  have hl : xs.length = 9 := hlen.trans (by rfl)
  match xs, hl with
  | [x0, x1, x2, x3, x4, x5, x6, x7, x8], _ =>
  have int : ∀ c x, DataW.trod enc Try.prog W 0 (fun _ => true) true n 3 [c] = some x → ∃ z, c = .int .i64 z := fun c x h => by
    obtain ⟨z, ez, -, wz⟩ := DataW.trod_int Try.underlying3 h
    exact ⟨z, by simpa using ez⟩
  have err : ∀ c x, DataW.trod enc Try.prog W 0 (fun _ => true) true n 22 [c] = some x → ∃ z, c = .int .i64 z := fun c x h => by
    obtain ⟨z, ez, -, wz⟩ := DataW.trod_int Try.underlying22 h
    exact ⟨z, by simpa using ez⟩
  have boo : ∀ c x, DataW.trod enc Try.prog W 0 (fun _ => true) true n 4 [c] = some x → ∃ z, c = .bool z := fun c x h => by
    obtain ⟨z, ez, -⟩ := DataW.trod_bool Try.underlying4 h
    exact ⟨z, by simpa using ez⟩
  obtain ⟨z0, rfl⟩ := boo c0 x0 (by rw [show [c0] = ([c0, c1, c2, c3, c4, c5, c6, c7, c8].drop 0).take (Try.prog.cellsOf 4) by rw [fc4]; rfl]; exact hg 0 _ rfl)
  obtain ⟨z1, rfl⟩ := boo c1 x1 (by rw [show [c1] = ([.bool z0, c1, c2, c3, c4, c5, c6, c7, c8].drop 1).take (Try.prog.cellsOf 4) by rw [fc4]; rfl]; exact hg 1 _ rfl)
  obtain ⟨z2, rfl⟩ := boo c2 x2 (by rw [show [c2] = ([.bool z0, .bool z1, c2, c3, c4, c5, c6, c7, c8].drop 2).take (Try.prog.cellsOf 4) by rw [fc4]; rfl]; exact hg 2 _ rfl)
  obtain ⟨z3, rfl⟩ := boo c3 x3 (by rw [show [c3] = ([.bool z0, .bool z1, .bool z2, c3, c4, c5, c6, c7, c8].drop 3).take (Try.prog.cellsOf 4) by rw [fc4]; rfl]; exact hg 3 _ rfl)
  obtain ⟨z4, rfl⟩ := boo c4 x4 (by rw [show [c4] = ([.bool z0, .bool z1, .bool z2, .bool z3, c4, c5, c6, c7, c8].drop 4).take (Try.prog.cellsOf 4) by rw [fc4]; rfl]; exact hg 4 _ rfl)
  obtain ⟨z5, rfl⟩ := err c5 x5 (by rw [show [c5] = ([.bool z0, .bool z1, .bool z2, .bool z3, .bool z4, c5, c6, c7, c8].drop 5).take (Try.prog.cellsOf 22) by rw [fc22]; rfl]; exact hg 5 _ rfl)
  obtain ⟨z6, rfl⟩ := int c6 x6 (by rw [show [c6] = ([.bool z0, .bool z1, .bool z2, .bool z3, .bool z4, .int .i64 z5, c6, c7, c8].drop 6).take (Try.prog.cellsOf 3) by rw [fc3]; rfl]; exact hg 6 _ rfl)
  obtain ⟨z7, rfl⟩ := int c7 x7 (by rw [show [c7] = ([.bool z0, .bool z1, .bool z2, .bool z3, .bool z4, .int .i64 z5, .int .i64 z6, c7, c8].drop 7).take (Try.prog.cellsOf 3) by rw [fc3]; rfl]; exact hg 7 _ rfl)
  obtain ⟨z8, rfl⟩ := int c8 x8 (by rw [show [c8] = ([.bool z0, .bool z1, .bool z2, .bool z3, .bool z4, .int .i64 z5, .int .i64 z6, .int .i64 z7, c8].drop 8).take (Try.prog.cellsOf 3) by rw [fc3]; rfl]; exact hg 8 _ rfl)
  exact ⟨⟨z0, z1, z2, z3, z4, z5, z6, z7, z8⟩, rfl⟩
theorem open_facts {b0 : Nat} {r : Reach} {v : Value} {dd : DataW H} {p : List MemPlace} (hv : Value.okWide Try.prog W r b0 24 v) (h : DataW.Trod enc Try.prog W 0 (fun _ => true) true 24 v dd p) : ∃ f : Fq, v = f.w := by
  obtain ⟨cs, rfl, hsz⟩ := okWide_struct Try.underlying24 hv
  obtain ⟨c0, c1, c2, c3, c4, c5, c6, c7, c8, rfl⟩ := array9f (hsz.trans fc24)
  obtain ⟨fuel, hf⟩ := h
  obtain ⟨f, e⟩ := facts_cells (show DataW.trod enc Try.prog W 0 (fun _ => true) true fuel 24 [c0, c1, c2, c3, c4, c5, c6, c7, c8] = some (dd, p) by simpa [Value.cells] using hf)
  exact ⟨f, congrArg (fun l : List Value => Value.agg l.toArray) e⟩
end

end Go.Proofs.Ytcpnakghndfdpaa
