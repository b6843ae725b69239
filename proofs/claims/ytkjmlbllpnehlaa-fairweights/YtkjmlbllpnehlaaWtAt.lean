/- Tenants, what was served, and costs, beside each other. -/
import Derived.Test.YtkjmlbllpnehlaaRows
import Derived.Test.YtkjmlbllpnehlaaView
import Derived.Test.YtkjmlbllpnehlaaOwn
import Derived.Test.YtkjmlbllpnehlaaBase
import Derived.Test.YtkjmlbllpnehlaaFkZ
import Derived.Test.YtkjmlbllpnehlaaFkBy
import Derived.Test.YtkjmlbllpnehlaaFkAt
import Derived.Test.YtkjmlbllpnehlaaFkRd
import Derived.Test.YtkjmlbllpnehlaaFkNew
import Derived.Test.YtkjmlbllpnehlaaFkWorks
import Derived.Test.YtkjmlbllpnehlaaMapI
import Derived.Test.YtkjmlbllpnehlaaTurned
import Derived.Test.YtkjmlbllpnehlaaPriceAt
import Derived.Test.YtkjmlbllpnehlaaWtZ
import Derived.WalkKit
import Derived.ProofKit
import Derived.OpenShut
import Derived.Below
import Derived.WalkLawsBesides
import Derived.Deep.QuietTactic
import Derived.BigQuiet
import Derived.Maps.OwnSet
import Derived.Maps.Views
namespace Go.Proofs.Ytkjmlbllpnehlaa
set_option maxRecDepth 20000
open Go.ChangeShapes Go.WideShapes Go.ChangeAt Go.RowKit
set_option linter.unusedVariables false
set_option linter.unusedSimpArgs false

structure Wt (B : Nat) (w0 w : World) (f g : Nat) (sv : List Int) (p : Option Addr) (l c : Nat) (ps : List Int) (s : Fr) : Prop where
  q : FrIn B w0 w f s
  r : Srv B w g sv
  c : RowI (g + 1) w p l c ps
theorem Wt.below {B : Nat} {w0 w w' : World} {f g : Nat} {sv : List Int} {p : Option Addr} {l c : Nat} {ps : List Int} {s : Fr} (h : Wt B w0 w f g sv p l c ps s) (hb : Below w.heap.size w w') : Wt B w0 w' f g sv p l c ps s := ⟨h.q.more hb, h.r.below hb, h.c.below hb⟩
theorem Wt.le {B : Nat} {w0 w : World} {f g : Nat} {sv : List Int} {p : Option Addr} {l c : Nat} {ps : List Int} {s : Fr} (h : Wt B w0 w f g sv p l c ps s) : B ≤ w.heap.size := by
  obtain ⟨g, A, hF⟩ := h.q.at_
  exact hF.lt.2.2
theorem Wt.off {B : Nat} {w0 w w' : World} {f g : Nat} {sv : List Int} {p : Option Addr} {l c : Nat} {ps : List Int} {s s' : Fr} (h : Wt B w0 w f g sv p l c ps s) (hp : FrIn B w0 w' f s') (o : Off B TF w w') : Wt B w0 w' f g sv p l c ps s' := ⟨hp, h.r.off o rfl, h.c.off o rfl⟩
theorem Wt.turn {B : Nat} {w0 w w' : World} {f g : Nat} {sv : List Int} {p : Option Addr} {l c : Nat} {ps : List Int} {s : Fr} {b n : Nat} {fm : Int → Option Int} (h : Wt B w0 w f g sv p l c ps s) (hm : MapI w b n fm) (hb : B ≤ b) (t : w.mapTurned w' b) : Wt B w0 w' f g sv p l c ps s := by
  have k := turned_off (T := fun _ => false) hm hb t
  refine ⟨h.q.turn hm hb t, h.r.kept ?_, h.c.keep fun i hi => ?_⟩
  · obtain ⟨m, r⟩ := h.r.row
    exact k g r.lt ⟨_, _, r⟩
  · obtain ⟨-, m, r⟩ := own_blk h.c.own hi
    exact k i r.lt ⟨_, _, r⟩
theorem Wt.set {B : Nat} {w0 w : World} {f g : Nat} {sv : List Int} {p : Option Addr} {l c : Nat} {ps : List Int} {s : Fr} (h : Wt B w0 w f g sv p l c ps s) {i : Nat} (hi : i < sv.length) (v : Int) :
    Wt B w0 (w.setCell ⟨g, i, none⟩ (.int .i64 v)) f g (sv.set i v) p l c ps s ∧ Off B (fun t => t == 3) w (w.setCell ⟨g, i, none⟩ (.int .i64 v)) := by
  obtain ⟨m, r⟩ := h.r.row
  have o : Off B (fun t => t == 3) w (w.setCell ⟨g, i, none⟩ (.int .i64 v)) := Off.set r h.r.ge rfl i _
  refine ⟨⟨⟨?_, ?_⟩, h.r.set hi v, h.c.keep fun k hk => ?_⟩, o⟩
  · obtain ⟨y, A, hF⟩ := h.q.at_
    exact ⟨y, A, hF.off o rfl rfl rfl⟩
  · exact h.q.below.trans (o.below h.le)
  · obtain ⟨hge, -⟩ := own_blk h.c.own hk
    exact Below.heap_setCell w _ _ k (fun e => by
      have e' : k = g := e
      omega)
/-- the cost at a place of the row of costs -/
theorem Wt.cost {B : Nat} {w0 w : World} {f g : Nat} {sv : List Int} {x : Addr} {l c : Nat} {ps : List Int} {s : Fr} (h : Wt B w0 w f g sv (some x) l c ps s) (ho : okC ps) {r : Nat} (hr : r < l) : ∃ u, w.cell? (x.add r) = some (.int .i64 u) ∧ 1 ≤ u ∧ u ≤ 10000 := by
  have hl := h.c.len
  refine ⟨ps.getD r 0, h.c.reads.cell x rfl r hr, ?_⟩
  rw [show ps.getD r 0 = ps[r]'(by omega) by simp [List.getD, show r < ps.length by omega]]
  exact ho _ (List.getElem_mem _)
theorem rest_of (m l : Nat) (hl : 1 ≤ l) : ∃ r : Nat, r < l ∧ (m : Int).tmod (l : Int) = (r : Int) ∧ (m : Int) % (l : Int) = (r : Int) := by
  refine ⟨m % l, Nat.mod_lt _ (by omega), ?_, ?_⟩
  · rw [Int.tmod_eq_emod_of_nonneg (by omega)]
    omega
  · omega

end Go.Proofs.Ytkjmlbllpnehlaa
