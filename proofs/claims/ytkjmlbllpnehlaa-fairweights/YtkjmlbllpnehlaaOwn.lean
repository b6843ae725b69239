/- Rows that a call itself makes and fills: how they read behind it. -/
import Derived.Test.YtkjmlbllpnehlaaRows
import Derived.Test.YtkjmlbllpnehlaaView
import Derived.WalkKit
import Derived.ProofKit
import Derived.OpenShut
import Derived.Below
import Derived.Deep.QuietTactic
import Derived.BigQuiet
namespace Go.Proofs.Ytkjmlbllpnehlaa

set_option maxRecDepth 20000

open Go.ChangeShapes Go.WideShapes Go.ChangeAt Go.RowKit

set_option linter.unusedVariables false

theorem info3 : (Try.prog.info? 3).map (fun i => (i.zero, i.size, i.bytes)) = some (some (.int .i64 0), 1, 8) := by kernel_rfl

theorem info2 : (Try.prog.info? 2).map (fun i => (i.zero, i.size, i.bytes)) = some (some (.int .i64 0), 1, 8) := by kernel_rfl

/-- a row that is owned reads as the numbers that it holds -/
theorem own_reads {k : IntKind} {w : World} {B : Nat} {e : TypeId} {v : Value} {n : Nat} {cs : List Value} (h : w.ownsRow B e 1 v n cs) {zs : List Int} (hl : zs.length = n)
    (hw : ∀ z ∈ zs, (Lit.int k z).wf = true) (hc : ∀ j, j < n → cs[j]? = some (.int k (zs.getD j 0))) : ∃ a c, v = .slice a n c ∧ Reads k w a n zs := by
  rcases h.2 with ⟨rfl, rfl⟩ | ⟨g, cap, cur, rfl, _, hg, hn, hm, hs, ht⟩
  · obtain rfl := List.eq_nil_of_length_eq_zero hl
    exact ⟨none, 0, rfl, Reads.nil _ _⟩
  · refine ⟨_, _, rfl, Reads.of_row hl (by unfold maxLen at hm; omega) hw fun i hi => ?_⟩
    exact h.cells (g := g) rfl i _ (hc i hi)

theorem own_reads_at {k : IntKind} {w : World} {B : Nat} {e : TypeId} {a : Option Addr} {n c : Nat} {cs : List Value} (h : w.ownsRow B e 1 (.slice a n c) n cs) {zs : List Int} (hl : zs.length = n)
    (hw : ∀ z ∈ zs, (Lit.int k z).wf = true) (hc : ∀ j, j < n → cs[j]? = some (.int k (zs.getD j 0))) : Reads k w a n zs := by
  obtain ⟨a', c', ev, hr⟩ := own_reads h hl hw hc
  simp only [Value.slice.injEq] at ev
  rw [ev.1]
  exact hr

/-- one more of the first k is as it shall be, where the k-th is set -/
theorem set_step {cs : List Value} {n k : Nat} {u : Value} {F : Nat → Value} (hl : cs.length = n) (hk : k < n) (hu : u = F k) (h : ∀ j, j < k → cs[j]? = some (F j)) :
    ∀ j, j < k + 1 → (cs.set k u)[j]? = some (F j) := by
  intro j hj
  by_cases e : j = k
  · subst e
    subst hu
    simp [hl, hk]
  · rw [List.getElem?_set_ne (by omega)]
    exact h j (by omega)

theorem own_length {w : World} {B : Nat} {e : TypeId} {v : Value} {n : Nat} {cs : List Value} (h : w.ownsRow B e 1 v n cs) : cs.length = n := by
  simpa using h.1

/-- the one new cell that an append of one number reads -/
theorem one_new (w : World) (V : Value) (t : TypeId) : ∀ j u, [V][j]? = some u → (w.alloc (.cells #[V] t)).cell? ((⟨w.heap.size, 0, none⟩ : Addr).add j) = some u := by
  intro j u hj
  match j, hj with
  | 0, hj => simp at hj; subst hj; simp [Addr.add]

theorem one_newD (w : World) (V : Value) (t : TypeId) : ∀ j u, [V][j]? = some u → (w.alloc (.cells #[V] t)).drew.cell? ((⟨w.heap.size, 0, none⟩ : Addr).add j) = some u := one_new w V t

theorem size_newD (w : World) (o : Obj) (B : Nat) (h : B ≤ w.heap.size) : B ≤ (w.alloc o).drew.heap.size := by
  show B ≤ (w.heap.push o).size
  simp
  omega

theorem grown_drew {w w' : World} {r : Option Nat} (h : w.drew.grownBy w' r) : w.grownBy w' r := ⟨h.os, h.tape, h.output, h.size, h.block⟩

theorem one_oneCell (k : IntKind) (z : Int) : ∀ u ∈ [Value.int k z], u.oneCell' = true := by
  intro u hu
  simp at hu
  subst hu
  rfl

/-- the first k of a row that is gathered -/
def gath (F : Nat → Int) (kd : IntKind) (k : Nat) : List Value := (List.range k).map fun j => .int kd (F j)

theorem gath_succ (F : Nat → Int) (kd : IntKind) (k : Nat) : gath F kd (k + 1) = gath F kd k ++ [.int kd (F k)] := by
  simp [gath, List.range_succ]

theorem gath_at (F : Nat → Int) (kd : IntKind) (n j : Nat) (h : j < n) : (gath F kd n)[j]? = some (.int kd (F j)) := by
  simp [gath, h]

/-- behind an append of one number to a row of the call's own -/
theorem append_step {w wr w1 : World} {B k : Nat} {e : TypeId} {kd : IntKind} {F : Nat → Int} {v v' : Value} {Z : Int} {o : Obj} (hB : B ≤ wr.heap.size) (hz : Z = F k) (hb : Below B w wr)
    (hown : wr.ownsRow B e 1 v k (gath F kd k)) (hown' : w1.ownsRow B e 1 v' (k + 1) (gath F kd k ++ [.int kd Z])) (hg : (wr.alloc o).grownBy w1 v.ownBlock) :
    Below B w w1 ∧ w1.ownsRow B e 1 v' (k + 1) (gath F kd (k + 1)) := by
  subst hz
  rw [gath_succ]
  exact ⟨(hb.alloc hB o).grown hg (by have := (Below.refl B wr).alloc hB o; have := this.size; omega) (fun g h => (hown.lt g h).1), hown'⟩

end Go.Proofs.Ytkjmlbllpnehlaa
