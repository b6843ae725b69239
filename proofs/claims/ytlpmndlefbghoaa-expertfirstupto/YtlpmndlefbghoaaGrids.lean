/- Rows of rows that a call itself makes, one row appended behind the other. -/
import Derived.Test.YtlpmndlefbghoaaRows
import Derived.Test.YtlpmndlefbghoaaView
import Derived.Test.YtlpmndlefbghoaaOwn
import Derived.Test.YtlpmndlefbghoaaWhere
import Derived.Test.YtlpmndlefbghoaaSoft
import Derived.Test.YtlpmndlefbghoaaMean
import Derived.WalkKit
import Derived.ProofKit
import Derived.OpenShut
import Derived.Below
namespace Go.Proofs.Ytlpmndlefbghoaa
open Go.ChangeShapes Go.WideShapes Go.ChangeAt Go.RowKit
set_option linter.unusedVariables false

theorem info24 : (Try.prog.info? 24).map (fun i => (i.zero, i.size, i.bytes)) = some (some (.slice none 0 0), 1, 24) := by kernel_rfl

/-- the cells of the first k rows -/
def heads (A : Nat → Option Addr) (C : Nat → Nat) (R : Nat → List Int) (k : Nat) : List Value := (List.range k).map fun r => .slice (A r) (R r).length (C r)

theorem heads_congr {A A' : Nat → Option Addr} {C C' : Nat → Nat} {R : Nat → List Int} {k : Nat} (h : ∀ r, r < k → A r = A' r ∧ C r = C' r) : heads A C R k = heads A' C' R k := by
  unfold heads
  refine List.map_congr_left fun r hr => ?_
  rw [(h r (List.mem_range.1 hr)).1, (h r (List.mem_range.1 hr)).2]

theorem heads_succ (A : Nat → Option Addr) (C : Nat → Nat) (R : Nat → List Int) (k : Nat) : heads A C R (k + 1) = heads A C R k ++ [.slice (A k) (R k).length (C k)] := by
  simp [heads, List.range_succ]

structure OwnGrid (B : Nat) (w : World) (v : Value) (k : Nat) (A : Nat → Option Addr) (C : Nat → Nat) (R : Nat → List Int) : Prop where
  own : w.ownsRow B 24 1 v k (heads A C R k)
  row : ∀ r, r < k → Reads .i64 w (A r) (R r).length (R r)
  apart : ∀ r, r < k → 0 < (R r).length → ∀ x, A r = some x → ∀ g, v.ownBlock = some g → x.block ≠ g

theorem OwnGrid.nil (B : Nat) (w : World) (A : Nat → Option Addr) (C : Nat → Nat) (R : Nat → List Int) : OwnGrid B w (.slice none 0 0) 0 A C R :=
  ⟨World.ownsRow_nil _ _ _ _, fun r h => by omega, fun r h => by omega⟩

theorem OwnGrid.below {B : Nat} {w w' : World} {v : Value} {k : Nat} {A : Nat → Option Addr} {C : Nat → Nat} {R : Nat → List Int} (h : OwnGrid B w v k A C R) (hb : Below w.heap.size w w') : OwnGrid B w' v k A C R :=
  ⟨own_below h.own hb, fun r hr => (h.row r hr).below hb, h.apart⟩

theorem Reads.grown {k : IntKind} {w w' : World} {a : Option Addr} {n : Nat} {zs : List Int} {row : Option Nat} (h : Reads k w a n zs) (hg : w.grownBy w' row) (ha : 0 < n → ∀ x, a = some x → ∀ g, row = some g → x.block ≠ g) : Reads k w' a n zs :=
  ⟨h.len, h.max, h.wf, h.some_, fun x hx i hi => hg.cell (h.cell x hx i hi) (fun e => by
    exact ha (by omega) x hx _ e.symm (by simp only [Addr.add]; split <;> rfl))⟩

/-- behind an append of one more row -/
theorem OwnGrid.app {B : Nat} {w w' : World} {v v' : Value} {k : Nat} {A : Nat → Option Addr} {C : Nat → Nat} {R : Nat → List Int} (h : OwnGrid B w v k A C R) {p : Option Addr} {c : Nat} {V : Value} (hV : V = .slice p (R k).length c)
    (hr : Reads .i64 w p (R k).length (R k)) (hp : 0 < (R k).length → ∀ x, p = some x → ∀ g, v.ownBlock = some g → x.block ≠ g)
    (ho : w'.ownsRow B 24 1 v' (k + 1) (heads A C R k ++ [V])) (hg : w.grownBy w' v.ownBlock) (hs : Stays w v v') :
    OwnGrid B w' v' (k + 1) (fun r => if r = k then p else A r) (fun r => if r = k then c else C r) R := by
  subst hV
  have cell_lt : ∀ (a : Option Addr) (zs : List Int), Reads .i64 w a zs.length zs → 0 < zs.length → ∀ x, a = some x → x.block < w.heap.size := fun a zs q h0 x hx => by
    have := World.block_lt_of_cell? w _ (q.cell x hx 0 h0)
    simpa [Addr.add] using this
  have new : ∀ (a : Option Addr) (zs : List Int), Reads .i64 w a zs.length zs → (0 < zs.length → ∀ x, a = some x → ∀ g, v.ownBlock = some g → x.block ≠ g) → (0 < zs.length → ∀ x, a = some x → ∀ g, v'.ownBlock = some g → x.block ≠ g) := fun a zs q hh h0 x hx g hg' => by
    rcases hs with e | e
    · exact hh h0 x hx g (e ▸ hg')
    · have h1 := e g hg'
      have h2 := cell_lt a zs q h0 x hx
      omega
  refine ⟨?_, fun r hr' => ?_, fun r hr' h0 x hx g hg' => ?_⟩
  · rw [heads_succ]
    rw [heads_congr (A' := A) (C' := C) (fun r hr => by simp only [if_neg (show r ≠ k by omega), and_self])]
    simpa using ho
  · by_cases e : r = k
    · subst e
      simp only [if_true]
      exact hr.grown hg hp
    · simp only [if_neg e]
      exact (h.row r (by omega)).grown hg (h.apart r (by omega))
  · by_cases e : r = k
    · subst e
      simp only [if_true] at hx
      exact new p (R r) hr hp h0 x hx g hg'
    · simp only [if_neg e] at hx
      exact new (A r) (R r) (h.row r (by omega)) (h.apart r (by omega)) h0 x hx g hg'

/-- what was gathered is a row of rows -/
theorem OwnGrid.grid {B : Nat} {w : World} {v : Value} {k : Nat} {A : Nat → Option Addr} {C : Nat → Nat} {R : Nat → List Int} (h : OwnGrid B w v k A C R) : ∃ a c, v = .slice a k c ∧ Grid w a k A C R := by
  rcases h.own.2 with ⟨rfl, rfl⟩ | ⟨g, cap, cur, rfl, _, hg, hn, hm, hs, ht⟩
  · exact ⟨none, 0, rfl, by omega, fun h => by omega, fun x hx => (by cases hx), fun r hr => by omega⟩
  · refine ⟨_, _, rfl, by unfold maxLen at hm; omega, fun _ => ⟨_, rfl⟩, fun x hx r hr => ?_, h.row⟩
    obtain rfl := Option.some.inj hx
    exact h.own.cells (g := g) rfl r _ (by simp [heads, hr])

end Go.Proofs.Ytlpmndlefbghoaa
