/- A case in a variable of its own. -/
import Derived.Test.YteeljnibglnflaaRows
import Derived.Test.YteeljnibglnflaaView
import Derived.Test.YteeljnibglnflaaBmZ
import Derived.Test.YteeljnibglnflaaBmAt
import Derived.WalkKit
import Derived.ProofKit
import Derived.OpenShut
import Derived.WalkLawsBesides
import Derived.Below
import Derived.Deep.QuietTactic
import Derived.BigQuiet
import Derived.Laws.AppendOwnNone
namespace Go.Proofs.Yteeljnibglnflaa
set_option maxRecDepth 20000
open Go.ChangeShapes Go.WideShapes Go.ChangeAt Go.RowKit
set_option linter.unusedVariables false
set_option linter.unusedSimpArgs false

/-- a case in a variable of its own -/
structure Box (w : World) (b : Nat) (la : Option Addr) (n lc : Nat) (ra : Option Addr) (m rc : Nat) (Wd Ln St Pn : Int) : Prop where
  c0 : w.cell? ⟨b, 0, none⟩ = some (.slice la n lc)
  c1 : w.cell? ⟨b, 1, none⟩ = some (.slice ra m rc)
  c2 : w.cell? ⟨b, 2, none⟩ = some (.int .i64 Wd)
  c3 : w.cell? ⟨b, 3, none⟩ = some (.int .i64 Ln)
  c4 : w.cell? ⟨b, 4, none⟩ = some (.int .i64 St)
  c5 : w.cell? ⟨b, 5, none⟩ = some (.int .i64 Pn)

theorem Box.new (w : World) (la : Option Addr) (n lc : Nat) (ra : Option Addr) (m rc : Nat) (Wd Ln St Pn : Int) : Box (w.alloc (.cells #[.slice la n lc, .slice ra m rc, .int .i64 Wd, .int .i64 Ln, .int .i64 St, .int .i64 Pn] 25)) w.heap.size la n lc ra m rc Wd Ln St Pn := by
  constructor <;> simp

theorem Box.carry {w w' : World} {b : Nat} {la : Option Addr} {n lc : Nat} {ra : Option Addr} {m rc : Nat} {Wd Ln St Pn : Int} (h : Box w b la n lc ra m rc Wd Ln St Pn) (hc : ∀ p v, w.cell? p = some v → w'.cell? p = some v) : Box w' b la n lc ra m rc Wd Ln St Pn :=
  ⟨hc _ _ h.c0, hc _ _ h.c1, hc _ _ h.c2, hc _ _ h.c3, hc _ _ h.c4, hc _ _ h.c5⟩

theorem Box.below {w w' : World} {b : Nat} {la : Option Addr} {n lc : Nat} {ra : Option Addr} {m rc : Nat} {Wd Ln St Pn : Int} (h : Box w b la n lc ra m rc Wd Ln St Pn) (hb : Below w.heap.size w w') : Box w' b la n lc ra m rc Wd Ln St Pn :=
  h.carry fun p v hp => (hb.cell (World.block_lt_of_cell? w p hp)).trans hp

/-- beams, each within its room -/
def BmC (w : World) (a : Option Addr) (n : Nat) (A : Nat → Option Addr) (C : Nat → Nat) (L : Nat → Bm) : Prop := BmAt w a n A C L ∧ ∀ r, r < n → (L r).t.length ≤ C r

theorem BmC.below {w w' : World} {a : Option Addr} {n : Nat} {A : Nat → Option Addr} {C : Nat → Nat} {L : Nat → Bm} (h : BmC w a n A C L) (hb : Below w.heap.size w w') : BmC w' a n A C L := ⟨h.1.below hb, h.2⟩

end Go.Proofs.Yteeljnibglnflaa
