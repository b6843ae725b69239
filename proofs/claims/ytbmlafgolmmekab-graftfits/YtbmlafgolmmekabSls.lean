/- Lists of weights as values; blocks of cells. -/
import Derived.Test.YtbmlafgolmmekabRows
import Derived.Test.YtbmlafgolmmekabView
import Derived.Test.YtbmlafgolmmekabOwn
import Derived.Test.YtbmlafgolmmekabCfg
import Derived.Test.YtbmlafgolmmekabCfgs
import Derived.Test.YtbmlafgolmmekabHeld
import Derived.Test.YtbmlafgolmmekabReader
import Derived.WalkKit
import Derived.ProofKit
import Derived.OpenShut
import Derived.Below
import Derived.WalkLawsBesides
namespace Go.Proofs.Ytbmlafgolmmekab
open Go.ChangeShapes Go.WideShapes Go.ChangeAt Go.RowKit
set_option linter.unusedVariables false

abbrev nilS : Value := .slice none 0 0
/-- a slice as a value -/
structure SL where
  a : Option Addr
  n : Nat
  c : Nat

def SL.nought : SL := ⟨none, 0, 0⟩

def SL.v (s : SL) : Value := .slice s.a s.n s.c

/-- a list of weights -/
structure IsS (w : World) (s : SL) (zs : List Int) : Prop where
  reads : Reads .i8 w s.a s.n zs
  nil : s.a = none → s.c = 0
  cap : s.n ≤ s.c

theorem IsS.below {w w' : World} {s : SL} {zs : List Int} (h : IsS w s zs) (hb : Below w.heap.size w w') : IsS w' s zs := ⟨h.reads.below hb, h.nil, h.cap⟩
theorem IsS.drewN {w : World} {s : SL} {zs : List Int} (h : IsS w s zs) (m : Nat) : IsS (w.drewN m) s zs := ⟨h.reads.drewN m, h.nil, h.cap⟩
theorem IsS.none_ (w : World) : IsS w ⟨none, 0, 0⟩ [] := ⟨Reads.nil _ _, fun _ => rfl, Nat.le_refl _⟩

theorem Blk.new_at (t : TypeId) (w : World) (cs : Array Value) (g : Nat) (hg : g = w.heap.size) : Blk t (w.alloc (.cells cs t)) g cs := by
  subst hg
  exact Blk.new t w cs

theorem Blk.other {t : TypeId} {w : World} {b : Nat} {cs : Array Value} (h : Blk t w b cs) {a : Addr} (v : Value) (ha : b ≠ a.block) : Blk t (w.setCell a v) b cs := (Below.heap_setCell _ _ _ _ ha).trans h


theorem Blk.c3 {t0 : TypeId} {w : World} {b : Nat} {x0 x1 x2 : Value} (k : Blk t0 w b #[x0, x1, x2]) : w.cell? ⟨b, 0, none⟩ = some x0 ∧ w.cell? ⟨b, 1, none⟩ = some x1 ∧ w.cell? ⟨b, 2, none⟩ = some x2 := ⟨k.cell 0 rfl, k.cell 1 rfl, k.cell 2 rfl⟩
theorem Blk.o3 {t0 : TypeId} {w : World} {b : Nat} {cs : Array Value} (k : Blk t0 w b cs) : w.frozen? ⟨b, 0, none⟩ = false ∧ w.frozen? ⟨b, 1, none⟩ = false ∧ w.frozen? ⟨b, 2, none⟩ = false := ⟨k.open_ 0, k.open_ 1, k.open_ 2⟩
theorem Blk.c4 {t0 : TypeId} {w : World} {b : Nat} {x0 x1 x2 x3 : Value} (k : Blk t0 w b #[x0, x1, x2, x3]) : w.cell? ⟨b, 0, none⟩ = some x0 ∧ w.cell? ⟨b, 1, none⟩ = some x1 ∧ w.cell? ⟨b, 2, none⟩ = some x2 ∧ w.cell? ⟨b, 3, none⟩ = some x3 := ⟨k.cell 0 rfl, k.cell 1 rfl, k.cell 2 rfl, k.cell 3 rfl⟩
theorem Blk.o4 {t0 : TypeId} {w : World} {b : Nat} {cs : Array Value} (k : Blk t0 w b cs) : w.frozen? ⟨b, 0, none⟩ = false ∧ w.frozen? ⟨b, 1, none⟩ = false ∧ w.frozen? ⟨b, 2, none⟩ = false ∧ w.frozen? ⟨b, 3, none⟩ = false := ⟨k.open_ 0, k.open_ 1, k.open_ 2, k.open_ 3⟩
/-- a block behind a store into it -/
theorem set_blk {t : TypeId} {w : World} {b : Nat} {cs cs' : Array Value} (q : Blk t w b cs) (i : Nat) (v : Value) (e : cs.setIfInBounds i v = cs') : Blk t (w.setCell ⟨b, i, none⟩ v) b cs' := e ▸ q.set i v
/-- a struct of three cells, stored whole -/
theorem set3 {t : TypeId} {W : World} {b : Nat} {x0 x1 x2 : Value} (h : Blk t W b #[x0, x1, x2]) (v0 v1 v2 : Value) :
    ∃ W', ((W.setCell ⟨b, 0, none⟩ v0).setCell ⟨b, 1, none⟩ v1).setCell ⟨b, 2, none⟩ v2 = W' ∧ Blk t W' b #[v0, v1, v2] ∧ Only b W W' ∧ W'.heap.size = W.heap.size := by
  have q0 : Blk t (W.setCell ⟨b, 0, none⟩ v0) b #[v0, x1, x2] := set_blk h 0 v0 rfl
  have q1 : Blk t ((W.setCell ⟨b, 0, none⟩ v0).setCell ⟨b, 1, none⟩ v1) b #[v0, v1, x2] := set_blk q0 1 v1 rfl
  have q2 : Blk t (((W.setCell ⟨b, 0, none⟩ v0).setCell ⟨b, 1, none⟩ v1).setCell ⟨b, 2, none⟩ v2) b #[v0, v1, v2] := set_blk q1 2 v2 rfl
  exact ⟨_, rfl, q2, ((Only.set b 0 W v0).trans (Only.set b 1 _ v1)).trans (Only.set b 2 _ v2), by simp⟩

end Go.Proofs.Ytbmlafgolmmekab
