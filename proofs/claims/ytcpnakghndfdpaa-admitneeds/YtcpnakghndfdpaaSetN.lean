/- A struct stored whole. -/
import Derived.Test.YtcpnakghndfdpaaRows
import Derived.Test.YtcpnakghndfdpaaView
import Derived.Test.YtcpnakghndfdpaaCfgs
import Derived.WalkKit
import Derived.ProofKit
import Derived.OpenShut
import Derived.Below
import Derived.Deep.QuietTactic
import Derived.BigQuiet
import Derived.WalkLawsBesides
import Derived.Deep.RegionWith
namespace Go.Proofs.Ytcpnakghndfdpaa

set_option maxRecDepth 20000

open Go.ChangeShapes Go.WideShapes Go.ChangeAt Go.RowKit

set_option linter.unusedVariables false

set_option linter.unusedSimpArgs false

theorem Blk.open_ {t : TypeId} {w : World} {b : Nat} {cs : Array Value} (h : Blk t w b cs) (i : Nat) : w.frozen? ⟨b, i, none⟩ = false := by simp [World.frozen?, show w.heap[b]? = _ from h]

theorem Blk.set {t : TypeId} {w : World} {b : Nat} {cs : Array Value} (h : Blk t w b cs) (i : Nat) (v : Value) : Blk t (w.setCell ⟨b, i, none⟩ v) b (cs.setIfInBounds i v) := by
  have e : w.heap[b]? = some (.cells cs t (0, 0)) := h
  have h1 := setCell_eq_setRow w b i cs t (0, 0) v e
  have h2 := setRow_heap w b cs (cs.setIfInBounds i v) t (0, 0) e
  show (w.setCell ⟨b, i, none⟩ v).heap[b]? = _
  rw [h1]
  exact h2

/-- values stored one behind the other into a block -/
def setFrom (b : Nat) : Nat → List Value → World → World
  | _, [], W => W
  | i, v :: vs, W => setFrom b (i + 1) vs (W.setCell ⟨b, i, none⟩ v)

theorem setFrom_size (b : Nat) : ∀ (vs : List Value) (i : Nat) (W : World), (setFrom b i vs W).heap.size = W.heap.size
  | [], _, _ => rfl
  | v :: vs, i, W => by rw [setFrom, setFrom_size b vs]; simp [World.setCell]

theorem setFrom_below (b : Nat) {B : Nat} (hB : B ≤ b) : ∀ (vs : List Value) (i : Nat) (w W : World), Below B w W → Below B w (setFrom b i vs W)
  | [], _, _, _, h => h
  | v :: vs, i, w, W, h => setFrom_below b hB vs (i + 1) w _ (h.setCell hB v)

theorem setFrom_other (b g : Nat) (hg : g ≠ b) : ∀ (vs : List Value) (i : Nat) (W : World), (setFrom b i vs W).heap[g]? = W.heap[g]?
  | [], _, _ => rfl
  | v :: vs, i, W => (setFrom_other b g hg vs (i + 1) _).trans (Below.heap_setCell _ _ _ _ hg)

theorem setFrom_blk (t : TypeId) (b : Nat) : ∀ (vs os pre : List Value) (W : World), os.length = vs.length → Blk t W b (pre ++ os).toArray → Blk t (setFrom b pre.length vs W) b (pre ++ vs).toArray
  | [], os, pre, W, hl, h => by
    obtain rfl := List.eq_nil_of_length_eq_zero hl
    exact h
  | v :: vs, o :: os, pre, W, hl, h => by
    have h1 := h.set pre.length v
    have e : (pre ++ o :: os).toArray.setIfInBounds pre.length v = ((pre ++ [v]) ++ os).toArray := by simp
    rw [e] at h1
    have k := setFrom_blk t b vs os (pre ++ [v]) _ (by simpa using hl) h1
    rw [List.length_append, List.append_assoc] at k
    exact k

theorem setFrom_all {t : TypeId} {b : Nat} {W : World} {cs : Array Value} (h : Blk t W b cs) (vs : List Value) (hl : cs.size = vs.length) : Blk t (setFrom b 0 vs W) b vs.toArray :=
  setFrom_blk t b vs cs.toList [] W (by simpa using hl) (by simpa using h)

/-- numbers are apart from a cell that holds a slice -/
theorem Reads.store {k : IntKind} {w : World} {a : Option Addr} {n : Nat} {zs : List Int} (h : Reads k w a n zs) {q : Addr} {b : Option Addr} {m c : Nat} (hq : w.cell? q = some (.slice b m c)) (u : Value) : Reads k (w.setCell q u) a n zs :=
  ⟨h.len, h.max, h.wf, h.some_, fun x hx i hi => by
    have hc := h.cell x hx i hi
    have ne : q ≠ x.add i := fun e => by rw [← e] at hc; rw [hq] at hc; cases hc
    rw [World.cell?_setCell_other (h := ne)]
    exact hc⟩

/-- numbers are apart from a block whose cells are none -/
theorem Reads.setFrom {t : TypeId} {w : World} {a : Option Addr} {n : Nat} {zs : List Int} {b : Nat} {vs : List Value} {i : Nat} (h : Reads .i64 w a n zs) (hne : ∀ x, a = some x → 0 < n → x.block ≠ b) : Reads .i64 (setFrom b i vs w) a n zs :=
  ⟨h.len, h.max, h.wf, h.some_, fun x hx j hj => by
    have hc := h.cell x hx j hj
    rw [← hc]
    exact World.cell?_of_block (w := w) (setFrom_other b _ (by rw [block_add]; exact hne x hx (by omega)) vs i w)⟩

/-- an array with another type is another block -/
theorem own_type {w : World} {B e m : Nat} {b : Nat} {t : TypeId} {cs : Array Value} {a : Option Addr} {n c : Nat} {xs : List Value} (h : w.ownsRow B e 1 (.slice a n c) m xs) (k : Blk t w b cs) (ht : t ≠ e) : ∀ x, a = some x → x.block ≠ b := by
  intro x hx hb
  subst hx
  rcases h.2 with h2 | ⟨g, cap, cur, hv, hg, hh, r⟩
  · cases h2.1
  · cases hv
    have : b = g := hb.symm
    subst this
    have := (show w.heap[b]? = _ from k).symm.trans hh
    simp only [Option.some.injEq, Obj.cells.injEq] at this
    exact ht this.2.1

end Go.Proofs.Ytcpnakghndfdpaa
