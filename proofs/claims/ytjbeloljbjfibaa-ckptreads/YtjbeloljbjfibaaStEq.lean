/- Two configurations are held against each other. -/
import Derived.Test.YtjbeloljbjfibaaRows
import Derived.Test.YtjbeloljbjfibaaView
import Derived.WalkKit
import Derived.ProofKit
import Derived.OpenShut
import Derived.Below
import Derived.Laws.StructEq
namespace Go.Proofs.Ytjbeloljbjfibaa
open Go.ChangeShapes Go.WideShapes Go.ChangeAt Go.RowKit
set_option linter.unusedVariables false

theorem fields23 : Try.prog.underlying 23 = some (.struct (Try.prog.fieldsOf 23)) := by kernel_rfl
theorem held23 : Try.prog.stoodInHeld 23 = false := by kernel_rfl
theorem guard23 : Try.prog.eqGuardType Try.prog.depth 23 = false := by kernel_rfl
theorem list23 : (Try.prog.fieldsOf 23).toList.map (fun f => (f.name, f.type, f.offset)) = [("Dim", 3, 0), ("Heads", 3, 1), ("Layers", 3, 2), ("Vocab", 3, 3), ("Hidden", 3, 4), ("Experts", 3, 5), ("TopK", 3, 6), ("Window", 3, 7)] := by kernel_rfl

theorem info3' : (Try.prog.info? 3).map (fun i => (i.zero, i.size, i.bytes)) = some (some (.int .i64 0), 1, 8) := by kernel_rfl

theorem eqFields_same (k : Nat) (cs : Array Value) (w : World) (l : List Field) (h : ∀ f ∈ l, f.type = 3 ∧ ∃ z : Int, (part 3 cs f.offset).run Try.prog w = .ok (.int .i64 z) w) :
    (Op.eqFields (k + 1) cs cs l).run Try.prog w = .ok true w := by
  induction l with
  | nil => simp [Op.eqFields]
  | cons f l ih =>
    obtain ⟨ht, z, hz⟩ := h f (by simp)
    have := ih fun g hg => h g (by simp [hg])
    simp only [Op.eqFields, Sem.run_ite, Sem.run_bind, ht, hz, Result.andThen_ok, run_equalIn_int w k 3 .i64 .i64 z z Try.underlying3, beq_self_eq_true]
    simp [this]

theorem cfg_same (d h l v u x t n : Int) (w : World) : (binOp .eql 23 (.agg #[.int .i64 d, .int .i64 h, .int .i64 l, .int .i64 v, .int .i64 u, .int .i64 x, .int .i64 t, .int .i64 n]) (.agg #[.int .i64 d, .int .i64 h, .int .i64 l, .int .i64 v, .int .i64 u, .int .i64 x, .int .i64 t, .int .i64 n])).run Try.prog w = .ok (.bool true) w := by
  rw [run_eql_struct, run_equalIn_struct w 9999 23 _ _ fields23 held23, eqFields_same]
  · rfl
  · intro f hf
    have := List.mem_map_of_mem (f := fun f => (f.name, f.type, f.offset)) hf
    rw [list23] at this
    simp only [List.mem_cons, List.not_mem_nil, or_false, Prod.mk.injEq] at this
    obtain ⟨i, hi, hzz⟩ := Option.map_eq_some_iff.1 info3'
    simp only [Prod.mk.injEq] at hzz
    rcases this with ⟨_, h1, h2⟩ | ⟨_, h1, h2⟩ | ⟨_, h1, h2⟩ | ⟨_, h1, h2⟩ | ⟨_, h1, h2⟩ | ⟨_, h1, h2⟩ | ⟨_, h1, h2⟩ | ⟨_, h1, h2⟩ <;>
      exact ⟨h1, _, by rw [h2]; simp [part, go_sem, typeInfo, sizeOf, hi, hzz.2.1]; rfl⟩

theorem cfg_neq (d h l v u x t n : Int) (w : World) : (binOp .neq 23 (.agg #[.int .i64 d, .int .i64 h, .int .i64 l, .int .i64 v, .int .i64 u, .int .i64 x, .int .i64 t, .int .i64 n]) (.agg #[.int .i64 d, .int .i64 h, .int .i64 l, .int .i64 v, .int .i64 u, .int .i64 x, .int .i64 t, .int .i64 n])).run Try.prog w = .ok (.bool false) w := by
  have e := cfg_same d h l v u x t n w
  rw [run_eql_struct] at e
  rw [run_neq_struct]
  generalize (Op.equalIn 10000 23 (.agg #[.int .i64 d, .int .i64 h, .int .i64 l, .int .i64 v, .int .i64 u, .int .i64 x, .int .i64 t, .int .i64 n]) (.agg #[.int .i64 d, .int .i64 h, .int .i64 l, .int .i64 v, .int .i64 u, .int .i64 x, .int .i64 t, .int .i64 n])).run Try.prog w = r at e ⊢
  cases r with
  | ok b w' =>
    simp [Result.andThen] at e ⊢
    exact e
  | halt _ _ => simp [Result.andThen] at e

end Go.Proofs.Ytjbeloljbjfibaa
