/- A row of acts that is handed in: what each act is. -/
import Derived.Test.YtkjmlbllpnehlaaRows
import Derived.Test.YtkjmlbllpnehlaaView
import Derived.Test.YtkjmlbllpnehlaaOwn
import Derived.Test.YtkjmlbllpnehlaaBase
import Derived.WalkKit
import Derived.ProofKit
import Derived.OpenShut
import Derived.Below
import Derived.WalkLawsBesides
import Derived.Deep.QuietTactic
import Derived.BigQuiet
import Derived.ChangeOld
import Derived.ChangeMaps5
import Derived.Deep.Slices
import Derived.Lib.SmallJoins
namespace Go.Proofs.Ytkjmlbllpnehlaa
set_option maxRecDepth 20000
open Go.ChangeShapes Go.WideShapes Go.ChangeAt Go.RowKit
set_option linter.unusedVariables false
set_option linter.unusedSimpArgs false

/-- an act as it is handed in -/
structure OpV where
  k : Int
  t : Int
  i : Int
  c : Int
def OpV.nought : OpV := ⟨0, 0, 0, 0⟩

/-- a row of acts that is handed in -/
structure OpsAt (w : World) (a : Option Addr) (n : Nat) (O : Nat → OpV) : Prop where
  max : n ≤ 9223372036854775807
  some_ : 0 < n → ∃ x, a = some x
  cell : ∀ x, a = some x → ∀ i, i < n → w.cell? (x.add (i * 4)) = some (.int .i64 (O i).k) ∧ w.cell? ((x.add (i * 4)).add 1) = some (.int .i64 (O i).t) ∧ w.cell? ((x.add (i * 4)).add 2) = some (.int .i64 (O i).i) ∧ w.cell? ((x.add (i * 4)).add 3) = some (.int .i64 (O i).c)
  wf : ∀ i, i < n → (Lit.int .i64 (O i).i).wf = true

theorem OpsAt.below {w w' : World} {a : Option Addr} {n : Nat} {O : Nat → OpV} (h : OpsAt w a n O) (hb : Below w.heap.size w w') : OpsAt w' a n O := by
  have c : ∀ p v, w.cell? p = some v → w'.cell? p = some v := fun p v hp => (hb.cell (World.block_lt_of_cell? w p hp)).trans hp
  exact ⟨h.max, h.some_, fun x hx i hi => ⟨c _ _ (h.cell x hx i hi).1, c _ _ (h.cell x hx i hi).2.1, c _ _ (h.cell x hx i hi).2.2.1, c _ _ (h.cell x hx i hi).2.2.2⟩, h.wf⟩

theorem ce32 : Try.prog.cellsOf 32 = 4 := by kernel_rfl
theorem ce3 : Try.prog.cellsOf 3 = 1 := by kernel_rfl

theorem choose_below {α : Type} (d0 : α) {n : Nat} {p : Nat → α → Prop} (h : ∀ i, i < n → ∃ a, p i a) : ∃ F : Nat → α, ∀ i, i < n → p i (F i) := by
  refine ⟨fun i => if hi : i < n then (h i hi).choose else d0, fun i hi => ?_⟩
  simp only [dif_pos hi]
  exact (h i hi).choose_spec

section
variable {H : Type} {enc : TypeId × Value → H} {W : World} {fuel : Nat}

theorem open_op {c0 c1 c2 c3 : Value} {x : DataW H × List MemPlace} (h : DataW.trod enc Try.prog W 0 (fun _ => true) true fuel 32 [c0, c1, c2, c3] = some x) :
    ∃ o : OpV, c0 = .int .i64 o.k ∧ c1 = .int .i64 o.t ∧ c2 = .int .i64 o.i ∧ c3 = .int .i64 o.c ∧ (Lit.int .i64 o.i).wf = true := by
  obtain ⟨xs, n, -, ex, -, hlen, hf⟩ := DataW.trod_struct Try.underlying32 h
  have hl : xs.length = 4 := hlen.trans (by rfl)
  match xs, hl with
  | [x0, x1, x2, x3], _ =>
  have g0 : DataW.trod enc Try.prog W 0 (fun _ => true) true n 3 [c0] = some x0 := by rw [show [c0] = ([c0, c1, c2, c3].drop 0).take (Try.prog.cellsOf 3) by rw [ce3]; rfl]; exact hf 0 _ rfl
  have g1 : DataW.trod enc Try.prog W 0 (fun _ => true) true n 3 [c1] = some x1 := by rw [show [c1] = ([c0, c1, c2, c3].drop 1).take (Try.prog.cellsOf 3) by rw [ce3]; rfl]; exact hf 1 _ rfl
  have g2 : DataW.trod enc Try.prog W 0 (fun _ => true) true n 3 [c2] = some x2 := by rw [show [c2] = ([c0, c1, c2, c3].drop 2).take (Try.prog.cellsOf 3) by rw [ce3]; rfl]; exact hf 2 _ rfl
  have g3 : DataW.trod enc Try.prog W 0 (fun _ => true) true n 3 [c3] = some x3 := by rw [show [c3] = ([c0, c1, c2, c3].drop 3).take (Try.prog.cellsOf 3) by rw [ce3]; rfl]; exact hf 3 _ rfl
  obtain ⟨z0, e0, -, -⟩ := DataW.trod_int Try.underlying3 g0
  obtain ⟨z1, e1, -, -⟩ := DataW.trod_int Try.underlying3 g1
  obtain ⟨z2, e2, -, k2⟩ := DataW.trod_int Try.underlying3 g2
  obtain ⟨z3, e3, -, -⟩ := DataW.trod_int Try.underlying3 g3
  exact ⟨⟨z0, z1, z2, z3⟩, by simpa using e0, by simpa using e1, by simpa using e2, by simpa using e3, k2⟩

theorem open_ops {a : Option Addr} {l c : Nat} {dd : DataW H} {p : List MemPlace} (h : DataW.Trod enc Try.prog W 0 (fun _ => true) true 23 (.slice a l c) dd p) :
    ∃ O : Nat → OpV, OpsAt W a l O ∧ (a = none → c = 0) ∧ l ≤ c := by
  obtain ⟨fuel, hf⟩ := h
  have hf' : DataW.trod enc Try.prog W 0 (fun _ => true) true fuel 23 [.slice a l c] = some (dd, p) := by simpa [Value.cells] using hf
  rcases Go.Deep.open_slice Try.underlying23 hf' with ⟨hcs, hd⟩ | ⟨a', len, cap, m, n, D, Pl, hcs, _, hl, hm, hmm, -, hx⟩
  · simp only [List.cons.injEq, Value.slice.injEq, and_true] at hcs
    obtain ⟨rfl, rfl, rfl⟩ := hcs
    exact ⟨fun _ => OpV.nought, ⟨Nat.zero_le _, (fun h => by cases h), (fun x hx => by cases hx), fun i hi => by omega⟩, fun _ => rfl, Nat.le_refl _⟩
  · simp only [List.cons.injEq, Value.slice.injEq, and_true] at hcs
    obtain ⟨rfl, rfl, rfl⟩ := hcs
    have hlm : l ≤ m := by rw [hmm]; simp; exact hl
    rw [ce32] at hx
    obtain ⟨F, hF⟩ := choose_below OpV.nought (n := l) (p := fun i o => (W.cell? (a'.add (i * 4)) = some (.int .i64 o.k) ∧ W.cell? ((a'.add (i * 4)).add 1) = some (.int .i64 o.t) ∧ W.cell? ((a'.add (i * 4)).add 2) = some (.int .i64 o.i) ∧
        W.cell? ((a'.add (i * 4)).add 3) = some (.int .i64 o.c)) ∧ (Lit.int .i64 o.i).wf = true) (fun i hi => by
      obtain ⟨cs', h1, h2⟩ := hx i (by omega)
      obtain ⟨q1, hlen, q3⟩ := World.cells?_some h1
      match cs', hlen with
      | [c0, c1, c2, c3], _ =>
        obtain ⟨o, e0, e1, e2, e3, e4⟩ := open_op h2
        subst e0 e1 e2 e3
        exact ⟨o, ⟨q3 0 (by decide), q3 1 (by decide), q3 2 (by decide), q3 3 (by decide)⟩, e4⟩)
    refine ⟨F, ⟨by unfold maxLen at hm; omega, fun _ => ⟨_, rfl⟩, fun x hx' i hi => ?_, fun i hi => (hF i hi).2⟩, (fun h => by cases h), hl⟩
    obtain rfl := Option.some.inj hx'
    exact (hF i hi).1
end

end Go.Proofs.Ytkjmlbllpnehlaa
