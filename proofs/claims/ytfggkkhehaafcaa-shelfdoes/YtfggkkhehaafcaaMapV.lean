/- Maps keyed by texts: what is found at each, one more, none any more. -/
import Derived.Test.YtfggkkhehaafcaaRows
import Derived.Test.YtfggkkhehaafcaaView
import Derived.Test.YtfggkkhehaafcaaOwn
import Derived.Test.YtfggkkhehaafcaaPages
import Derived.WalkKit
import Derived.ProofKit
import Derived.OpenShut
import Derived.Below
import Derived.WalkLawsBesides
import Derived.Deep.QuietTactic
import Derived.BigQuiet
import Derived.Maps.OwnSet
import Derived.Maps.Views
namespace Go.Proofs.Ytfggkkhehaafcaa
open Go.ChangeShapes Go.WideShapes Go.ChangeAt Go.RowKit
set_option linter.unusedVariables false
set_option linter.unusedSimpArgs false

open Go.Maps (Keyed)

/-- an element of a map as it is -/
def heldE (v : Value) : Option (DataW Value × List MemPlace) := some (.held v, [])

/-- a map keyed by texts: what is found at each -/
def MapV (w : World) (b n : Nat) (z : Value) (f : ByteArray → Value) : Prop :=
  ∃ D, w.ownsMap Try.prog 9 heldE b n D ∧ ∀ t : ByteArray, D.atKey (.string t.data.toList) (.held z) = .held (f t)

def updT {α : Type} (f : ByteArray → α) (t : ByteArray) (v : α) : ByteArray → α := fun u => if u = t then v else f u
theorem updT_same {α : Type} (f : ByteArray → α) (t : ByteArray) (v : α) : updT f t v t = v := by simp [updT]
theorem updT_other {α : Type} (f : ByteArray → α) (t : ByteArray) (v : α) (u : ByteArray) (h : u ≠ t) : updT f t v u = f u := by simp [updT, h]

theorem key9 {t : ByteArray} (h : t.size ≤ maxLen) : keyOf Try.prog 9 (.string t) = some (.string t.data.toList) := by simp [keyOf, Try.underlying9, mapKey, h]
theorem keyed9 : Keyed Try.prog 9 := Maps.string_keyed Try.underlying9
theorem text_lit {t u : ByteArray} (h : u ≠ t) : Lit.string u.data.toList ≠ Lit.string t.data.toList := fun e => by
  injection e with e
  exact h (ByteArray.ext (Array.toList_inj.1 e))

theorem MapV.lt {w : World} {b n : Nat} {z : Value} {f : ByteArray → Value} (h : MapV w b n z f) : b < w.heap.size := by
  obtain ⟨D, h1, _⟩ := h
  exact h1.lt
theorem MapV.kept {w w' : World} {b n : Nat} {z : Value} {f : ByteArray → Value} (h : MapV w b n z f) (e : w'.heap[b]? = w.heap[b]?) : MapV w' b n z f := by
  obtain ⟨D, ⟨es, clock, hb, r⟩, hD⟩ := h
  exact ⟨D, ⟨es, clock, e.trans hb, r⟩, hD⟩
theorem MapV.mono {w : World} {b n n' : Nat} {z : Value} {f : ByteArray → Value} (h : MapV w b n z f) (hn : n ≤ n') : MapV w b n' z f := by
  obtain ⟨D, h1, h2⟩ := h
  exact ⟨D, h1.mono hn, h2⟩
theorem MapV.made (w : World) (z : Value) : MapV (w.alloc (.map #[] 0)) w.heap.size 0 z (fun _ => z) := ⟨_, World.ownsMap_made w Try.prog 9 heldE, fun _ => rfl⟩
theorem MapV.type {w : World} {b n : Nat} {z : Value} {f : ByteArray → Value} (h : MapV w b n z f) : typeOf w b = none := by
  obtain ⟨D, ⟨es, clock, hb, r⟩, hD⟩ := h
  simp [typeOf, hb]
theorem MapV.notRow {w : World} {b n : Nat} {z : Value} {f : ByteArray → Value} (h : MapV w b n z f) {t : TypeId} {g m : Nat} (r : Row t w g m) : g ≠ b := by
  rintro rfl
  have := h.type
  rw [r.type] at this
  cases this

/-- what is found -/
theorem MapV.look {w : World} {b n : Nat} {z : Value} {f : ByteArray → Value} (h : MapV w b n z f) (T E : TypeId) (hT : Try.prog.underlying T = some (.map 9 E)) (hz : (zeroValue E).run Try.prog w = .ok z w) (t : ByteArray) (ht : t.size ≤ maxLen) :
    (Instr.lookup T (.map (some b)) (.string t) false).run Try.prog w = .ok (f t) w := by
  obtain ⟨D, h1, h2⟩ := h
  obtain ⟨v, ps, hr, hv⟩ := h1.lookup (zd := .held z) (zp := []) keyed9 hT hz rfl (key9 ht)
  rw [h2 t] at hv
  simp only [heldE, Option.some.injEq, Prod.mk.injEq, DataW.held.injEq] at hv
  rw [hr, hv.1]

/-- one more, or another in its place -/
theorem MapV.store {w : World} {b n : Nat} {z : Value} {f : ByteArray → Value} (h : MapV w b n z f) (T E : TypeId) (hT : Try.prog.underlying T = some (.map 9 E)) (t : ByteArray) (ht : t.size ≤ maxLen) (hn : n < maxLen) (v : Value) :
    ∃ w', (Instr.mapUpdate T (.map (some b)) (.string t) v).run Try.prog w = .ok () w' ∧ MapV w' b (n + 1) z (updT f t v) ∧ w.mapTurned w' b := by
  obtain ⟨D, h1, h2⟩ := h
  obtain ⟨w', hr, hm, ht'⟩ := h1.store keyed9 hT hn (key9 ht) (show heldE v = some (.held v, []) from rfl)
  refine ⟨w', hr, ⟨_, hm, fun u => ?_⟩, ht'⟩
  by_cases e : u = t
  · subst e
    rw [updT_same, Maps.atKey_put_same h1.isMap (by trivial)]
  · rw [updT_other _ _ _ _ e, Maps.atKey_put_other (text_lit e)]
    exact h2 u

/-- none any more -/
theorem MapV.drop {w : World} {b n : Nat} {z : Value} {f : ByteArray → Value} (h : MapV w b n z f) (T E : TypeId) (hT : Try.prog.underlying T = some (.map 9 E)) (t : ByteArray) (ht : t.size ≤ maxLen) (ty : TypeId) :
    ∃ w', (Builtin.delete_ #[T, 9] ty #[.map (some b), .string t]).run Try.prog w = .ok (.tuple #[]) w' ∧ MapV w' b n z (updT f t z) ∧ w.mapTurned w' b := by
  obtain ⟨D, h1, h2⟩ := h
  obtain ⟨w', hr, hm, ht'⟩ := h1.drop keyed9 hT (key9 ht) ty
  refine ⟨w', hr, ⟨_, hm, fun u => ?_⟩, ht'⟩
  by_cases e : u = t
  · subst e
    rw [updT_same, Maps.atKey_del_same]
  · rw [updT_other _ _ _ _ e, Maps.atKey_del_other (text_lit e)]
    exact h2 u

end Go.Proofs.Ytfggkkhehaafcaa
