/- Maps of whole numbers by whole numbers. -/
import Derived.Test.YtkjmlbllpnehlaaRows
import Derived.Test.YtkjmlbllpnehlaaView
import Derived.Test.YtkjmlbllpnehlaaOwn
import Derived.Test.YtkjmlbllpnehlaaBase
import Derived.WalkKit
import Derived.ProofKit
import Derived.OpenShut
import Derived.Below
import Derived.WalkLawsBesides
import Derived.Deep.QuietTactic
import Derived.BigQuiet
import Derived.Maps.OwnSet
import Derived.Maps.Views
import Derived.Maps.OwnOps
namespace Go.Proofs.Ytkjmlbllpnehlaa
set_option maxRecDepth 20000
open Go.ChangeShapes Go.WideShapes Go.ChangeAt Go.RowKit
set_option linter.unusedVariables false
set_option linter.unusedSimpArgs false

open Go.Maps (Keyed)
def heldE (v : Value) : Option (DataW Value × List MemPlace) := some (.held v, [])
/-- what is found at each key -/
def MapI (w : World) (b n : Nat) (f : Int → Option Int) : Prop :=
  ∃ D, w.ownsMap Try.prog 3 heldE b n D ∧ (∀ z : Int, D.atKey (.int .i64 z) (.held (.int .i64 0)) = .held (.int .i64 ((f z).getD 0))) ∧ ∀ z : Int, Maps.has D (.int .i64 z) = (f z).isSome
def updI (f : Int → Option Int) (k : Int) (v : Int) : Int → Option Int := fun u => if u = k then some v else f u
theorem keyI {z : Int} (h : (Lit.int .i64 z).wf = true) : keyOf Try.prog 3 (.int .i64 z) = some (.int .i64 z) := by simp [keyOf, Try.underlying3, mapKey, h]
theorem keyedI : Keyed Try.prog 3 := Maps.int_keyed Try.underlying3
theorem int_lit {t u : Int} (h : u ≠ t) : Lit.int .i64 u ≠ Lit.int .i64 t := fun e => by
  injection e with _ e
  exact h e
theorem zero3 (w : World) : (zeroValue 3).run Try.prog w = .ok (.int .i64 0) w := by go_simp
theorem MapI.lt {w : World} {b n : Nat} {f : Int → Option Int} (h : MapI w b n f) : b < w.heap.size := by
  obtain ⟨D, h1, _⟩ := h
  exact h1.lt
theorem MapI.kept {w w' : World} {b n : Nat} {f : Int → Option Int} (h : MapI w b n f) (e : w'.heap[b]? = w.heap[b]?) : MapI w' b n f := by
  obtain ⟨D, ⟨es, clock, hb, r⟩, hD⟩ := h
  exact ⟨D, ⟨es, clock, e.trans hb, r⟩, hD⟩
theorem MapI.type {w : World} {b n : Nat} {f : Int → Option Int} (h : MapI w b n f) : typeOf w b = none := by
  obtain ⟨D, ⟨es, clock, hb, r⟩, hD⟩ := h
  simp [typeOf, hb]
theorem MapI.off {B : Nat} {T : TypeId → Bool} {w w' : World} {b n : Nat} {f : Int → Option Int} (h : MapI w b n f) (o : Off B T w w') : MapI w' b n f :=
  h.kept (o.block b h.lt (.inr fun t ht => by rw [h.type] at ht; cases ht))
theorem MapI.below {w w' : World} {b n : Nat} {f : Int → Option Int} (h : MapI w b n f) (hb : Below w.heap.size w w') : MapI w' b n f := h.kept (hb.block b h.lt)
theorem MapI.mono {w : World} {b n n' : Nat} {f : Int → Option Int} (h : MapI w b n f) (hn : n ≤ n') : MapI w b n' f := by
  obtain ⟨D, h1, h2⟩ := h
  exact ⟨D, h1.mono hn, h2⟩
theorem MapI.made (w : World) : MapI (w.alloc (.map #[] 0)) w.heap.size 0 (fun _ => none) := ⟨_, World.ownsMap_made w Try.prog 3 heldE, fun _ => rfl, fun _ => rfl⟩
theorem MapI.look {w : World} {b n : Nat} {f : Int → Option Int} (h : MapI w b n f) {z : Int} (hz : (Lit.int .i64 z).wf = true) :
    (Instr.lookup 41 (.map (some b)) (.int .i64 z) false).run Try.prog w = .ok (.int .i64 ((f z).getD 0)) w := by
  obtain ⟨D, h1, h2, h3⟩ := h
  obtain ⟨v, ps, hr, hv⟩ := h1.lookup (zd := .held (.int .i64 0)) (zp := []) keyedI Try.underlying41 (zero3 w) rfl (keyI hz)
  rw [h2 z] at hv
  simp only [heldE, Option.some.injEq, Prod.mk.injEq, DataW.held.injEq] at hv
  rw [hr, hv.1]
theorem MapI.look2 {w : World} {b n : Nat} {f : Int → Option Int} (h : MapI w b n f) {z : Int} (hz : (Lit.int .i64 z).wf = true) :
    (Instr.lookup 41 (.map (some b)) (.int .i64 z) true).run Try.prog w = .ok (.tuple #[.int .i64 ((f z).getD 0), .bool (f z).isSome]) w := by
  obtain ⟨D, h1, h2, h3⟩ := h
  obtain ⟨v, ps, hr, hv⟩ := h1.look_ok (zd := .held (.int .i64 0)) (zp := []) keyedI Try.underlying41 (zero3 w) rfl (keyI hz)
  rw [h2 z] at hv
  simp only [heldE, Option.some.injEq, Prod.mk.injEq, DataW.held.injEq] at hv
  rw [hr, hv.1, h3 z]
theorem MapI.store {w : World} {b n : Nat} {f : Int → Option Int} (h : MapI w b n f) {z : Int} (hz : (Lit.int .i64 z).wf = true) (hn : n < maxLen) (v : Int) :
    ∃ w', (Instr.mapUpdate 41 (.map (some b)) (.int .i64 z) (.int .i64 v)).run Try.prog w = .ok () w' ∧ MapI w' b (n + 1) (updI f z v) ∧ w.mapTurned w' b := by
  obtain ⟨D, h1, h2, h3⟩ := h
  obtain ⟨w', hr, hm, ht'⟩ := h1.store keyedI Try.underlying41 hn (keyI hz) (show heldE (.int .i64 v) = some (.held (.int .i64 v), []) from rfl)
  refine ⟨w', hr, ⟨_, hm, fun u => ?_, fun u => ?_⟩, ht'⟩
  · unfold updI
    by_cases e : u = z
    · subst e
      rw [if_pos rfl, Maps.atKey_put_same h1.isMap (by trivial)]
      rfl
    · rw [if_neg e, Maps.atKey_put_other (int_lit e)]
      exact h2 u
  · unfold updI
    by_cases e : u = z
    · subst e
      rw [if_pos rfl, Maps.has_put_same h1.isMap (by trivial)]
      rfl
    · rw [if_neg e, Maps.has_put_other (int_lit e)]
      exact h3 u
/-- a map's turning writes nothing else -/
theorem turned_off {B : Nat} {T : TypeId → Bool} {w w' : World} {b n : Nat} {f : Int → Option Int} (h : MapI w b n f) (hb : B ≤ b) (t : w.mapTurned w' b) : ∀ k, k < w.heap.size → (∃ tt m, Row tt w k m) → w'.heap[k]? = w.heap[k]? := by
  intro k hk ⟨tt, m, r⟩
  have hne : k ≠ b := fun e => by
    subst e
    have := h.type
    rw [r.type] at this
    cases this
  exact t.grown.block k hk (fun e => hne (by simpa using e))

end Go.Proofs.Ytkjmlbllpnehlaa
