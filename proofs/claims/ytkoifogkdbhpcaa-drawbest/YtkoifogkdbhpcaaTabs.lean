/- What the functions of package curve that hold a table give back: contracts of the calls. -/
import Derived.Test.YtkoifogkdbhpcaaRows
import Derived.Test.YtkoifogkdbhpcaaView
import Derived.WalkKit
import Derived.ProofKit
import Derived.OpenShut
import Derived.WalkLawsBesides
import Derived.Below
import Derived.Deep.QuietTactic
import Derived.BigQuiet
namespace Go.Proofs.Ytkoifogkdbhpcaa
set_option maxRecDepth 20000

open Go.ChangeShapes Go.WideShapes Go.ChangeAt Go.RowKit

set_option linter.unusedVariables false

theorem tab_cell (L : List Int) (k : Nat) (h : k < L.length) : (L.map (Value.int .i64)).toArray[k]? = some (.int .i64 (L.getD k 0)) := by
  simp [h]

def tabP : List Int := [65536, 62757, 60097, 57549, 55109, 52773, 50535, 48393, 46341, 44376, 42495, 40693, 38968, 37316, 35734, 34219, 32768]

def powZ (i : Int) : Int := tabP.getD i.toNat 0

theorem powZ_nat : ∀ k : Nat, k < 16 → 0 ≤ tabP.getD k 0 - tabP.getD (k + 1) 0 ∧ tabP.getD k 0 - tabP.getD (k + 1) 0 ≤ 3000 ∧ 32768 ≤ tabP.getD (k + 1) 0 ∧ tabP.getD k 0 ≤ 65536 := by
  decide

theorem powZ_steps (i : Int) (h0 : 0 ≤ i) (h1 : i < 16) : 0 ≤ powZ i - powZ (i + 1) ∧ powZ i - powZ (i + 1) ≤ 3000 ∧ 32768 ≤ powZ (i + 1) ∧ powZ i ≤ 65536 := by
  have h := powZ_nat i.toNat (by omega)
  have e : (i + 1).toNat = i.toNat + 1 := by omega
  unfold powZ
  rw [e]
  exact h

def betweenZ (f : Int) : Int := powZ (f / 4096) - (powZ (f / 4096) - powZ (f / 4096 + 1)) * (f % 4096) / 4096

theorem prod_bounds (d g : Int) (d0 : 0 ≤ d) (d1 : d ≤ 3000) (g0 : 0 ≤ g) (g1 : g < 4096) : 0 ≤ d * g ∧ d * g ≤ d * 4095 :=
  ⟨Int.mul_nonneg d0 g0, Int.mul_le_mul_of_nonneg_left (by omega) d0⟩

theorem between_call (f : Int) (h0 : 0 ≤ f) (h1 : f < 65536) (w : World) :
    Calls Try.prog 49 #[.int .i64 f] w fun e w' => e = .returned (.int .i64 (betweenZ f)) ∧ Below w.heap.size w w' := by
  have i0 : 0 ≤ f / 4096 := by omega
  have i1 : f / 4096 < 17 := by omega
  have i2 : f / 4096 + 1 < 17 := by omega
  have s := powZ_steps (f / 4096) i0 (by omega)
  have m := prod_bounds (powZ (f / 4096) - powZ (f / 4096 + 1)) (f % 4096) s.1 s.2.1 (by omega) (by omega)
  unfold betweenZ
  obtain ⟨p, ep⟩ : ∃ p, powZ (f / 4096) = p := ⟨_, rfl⟩
  obtain ⟨q, eq⟩ : ∃ q, powZ (f / 4096 + 1) = q := ⟨_, rfl⟩
  rw [ep, eq] at s m ⊢
  have EP : Hid (powZ (f / 4096) = p) := ep
  have EQ : Hid (powZ (f / 4096 + 1) = q) := eq
  clear ep eq
  obtain ⟨s1, s2, s3, s4⟩ := s
  obtain ⟨m1, m2⟩ := m
  go_enter Try.func49, Try.ntmps49
  go_wp2
  generalize hW : w.alloc (Obj.cells _ _) = W1
  have hW' : w.alloc (Obj.cells (tabP.map (Value.int .i64)).toArray 74) = W1 := hW
  have hg : Below w.heap.size w W1 := by rw [← hW]; exact below_new (Below.refl _ w) _
  have c1 : W1.cell? ⟨w.heap.size, (f / 4096).toNat, none⟩ = some (.int .i64 p) := by
    rw [← hW', World.cell?_alloc_new, ← EP.out]; exact tab_cell _ _ (by show _ < 17; omega)
  have c2 : W1.cell? ⟨w.heap.size, (f / 4096 + 1).toNat, none⟩ = some (.int .i64 q) := by
    rw [← hW', World.cell?_alloc_new, ← EQ.out]; exact tab_cell _ _ (by show _ < 17; omega)
  clear hW hW'
  go_quiet (fail)
  go_wp2
  go_ret
  exact ⟨rfl, below_drew hg ⟨_, rfl⟩⟩

end Go.Proofs.Ytkoifogkdbhpcaa
