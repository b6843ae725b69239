/- Tenants beside a map that turns. -/
import Derived.Test.YtkjmlbllpnehlaaRows
import Derived.Test.YtkjmlbllpnehlaaView
import Derived.Test.YtkjmlbllpnehlaaOwn
import Derived.Test.YtkjmlbllpnehlaaBase
import Derived.Test.YtkjmlbllpnehlaaFkZ
import Derived.Test.YtkjmlbllpnehlaaFkBy
import Derived.Test.YtkjmlbllpnehlaaFkAt
import Derived.Test.YtkjmlbllpnehlaaFkRd
import Derived.Test.YtkjmlbllpnehlaaFkNew
import Derived.Test.YtkjmlbllpnehlaaFkWorks
import Derived.Test.YtkjmlbllpnehlaaMapI
import Derived.WalkKit
import Derived.ProofKit
import Derived.OpenShut
import Derived.Below
import Derived.WalkLawsBesides
import Derived.Deep.QuietTactic
import Derived.BigQuiet
import Derived.Maps.OwnSet
import Derived.Maps.Views
namespace Go.Proofs.Ytkjmlbllpnehlaa
set_option maxRecDepth 20000
open Go.ChangeShapes Go.WideShapes Go.ChangeAt Go.RowKit
set_option linter.unusedVariables false
set_option linter.unusedSimpArgs false

theorem FrIn.turn {B : Nat} {w0 w w' : World} {f : Nat} {s : Fr} {b n : Nat} {fm : Int → Option Int} (h : FrIn B w0 w f s) (hm : MapI w b n fm) (hb : B ≤ b) (t : w.mapTurned w' b) : FrIn B w0 w' f s := by
  obtain ⟨g, A, hF⟩ := h.at_
  have hk : ∀ i tt, i < w.heap.size → typeOf w i = some tt → w'.heap[i]? = w.heap[i]? := fun i tt hi ht => t.grown.block i hi (fun e => by
    have e' : i = b := by simpa using e
    rw [e', hm.type] at ht
    cases ht)
  refine ⟨⟨g, A, hF.keep fun i tt hi ht _ => hk i tt hi ht⟩, h.below.trans ?_⟩
  have hg := t.grown
  exact ⟨hg.os, hg.tape, hg.output, hg.size, fun k hk' => hg.block k (by have := hF.lt.2.2; omega) (fun e => by
    have e' : k = b := by simpa using e
    omega)⟩
/-- the keys b .. b + m - 1, each with its rest of two -/
def fM (b m : Nat) : Int → Option Int := fun z => if (b : Int) ≤ z ∧ z < ((b + m : Nat) : Int) then some ((z - (b : Int)) % 2) else none
theorem fM_zero (b : Nat) : fM b 0 = fun _ => none := by
  funext z
  unfold fM
  rw [if_neg (by omega)]
theorem fM_succ (b m : Nat) : updI (fM b m) ((b + m : Nat) : Int) ((m % 2 : Nat) : Int) = fM b (m + 1) := by
  funext z
  unfold updI fM
  by_cases e : z = ((b + m : Nat) : Int)
  · rw [if_pos e, if_pos (by omega), e]
    congr 1
    omega
  · rw [if_neg e]
    by_cases h : (b : Int) ≤ z ∧ z < ((b + m : Nat) : Int)
    · rw [if_pos h, if_pos (by omega)]
    · rw [if_neg h, if_neg (by omega)]
theorem fM_at (b m j : Nat) (hj : j < m) : fM b m ((b + j : Nat) : Int) = some ((j % 2 : Nat) : Int) := by
  unfold fM
  rw [if_pos (by omega)]
  congr 1
  omega

end Go.Proofs.Ytkjmlbllpnehlaa
