/- What the functions of package curve that hold a table give back: contracts of the calls. -/
import Derived.Test.YtjbjclphomeafaaRows
import Derived.Test.YtjbjclphomeafaaSat
import Derived.Test.YtjbjclphomeafaaView
import Derived.WalkKit
import Derived.ProofKit
import Derived.OpenShut
import Derived.WalkLawsBesides
import Derived.Deep.QuietTactic
import Derived.BigQuiet
namespace Go.Proofs.Ytjbjclphomeafaa
open Go.ChangeShapes Go.WideShapes Go.ChangeAt Go.RowKit
set_option linter.unusedVariables false

def placeZ (n : Int) : Int := n % 16

theorem rest16 (n : Int) : (n.tmod 16 + 16).tmod 16 = n % 16 ∧ -16 < n.tmod 16 ∧ n.tmod 16 < 16 := by
  have a := Int.tmod_eq_emod (a := n) (b := 16)
  have b : -16 < n.tmod 16 ∧ n.tmod 16 < 16 := by
    rw [a]; split <;> omega
  refine ⟨?_, b⟩
  rw [Int.tmod_eq_emod_of_nonneg (by omega), a]
  split <;> omega

theorem place_call (n : Int) (w : World) :
    Calls Try.prog 26 #[.int .i64 n] w fun e w' => e = .returned (.int .i64 (placeZ n)) ∧ w' = w := by
  obtain ⟨b, c, d⟩ := rest16 n
  have e : Hid ((n.tmod 16 + 16).tmod 16 = n % 16) := b
  clear b
  go_enter Try.func26, Try.ntmps26
  go_wp2
  all_goals go_ret
  all_goals (refine ⟨ret_int ?_, rfl⟩; unfold placeZ; have b := e.out; rw [Int.tmod_eq_emod_of_nonneg (by omega)] at b; exact b)

def tabC : List Int := [65536, 60547, 46341, 25080, 0, -25080, -46341, -60547, -65536, -60547, -46341, -25080, 0, 25080, 46341, 60547]
def tabS : List Int := [0, 25080, 46341, 60547, 65536, 60547, 46341, 25080, 0, -25080, -46341, -60547, -65536, -60547, -46341, -25080]
def cosZ (n : Int) : Int := tabC.getD (placeZ n).toNat 0
def sinZ (n : Int) : Int := tabS.getD (placeZ n).toNat 0

theorem tab_get (L : List Int) (k : Nat) (h : k < (L.map (Value.int .i64)).length) : Ending.returned (L.map (Value.int .i64))[k] = .returned (.int .i64 (L.getD k 0)) := by
  have h' : k < L.length := by simpa using h
  simp [h']

theorem cos_call (n : Int) (w : World) :
    Calls Try.prog 20 #[.int .i64 n] w fun e w' => e = .returned (.int .i64 (cosZ n)) ∧ Below w.heap.size w w' := by
  have p0 : 0 ≤ placeZ n ∧ placeZ n < 16 := by unfold placeZ; omega
  unfold cosZ
  generalize hp : placeZ n = p at *
  go_enter Try.func20, Try.ntmps20
  go_wp2_with (go_at_call 26; refine (place_call _ _).mono ?_; rintro e w' ⟨rfl, rfl⟩)
  go_ret
  exact ⟨tab_get tabC _ _, below_new (Below.refl _ w) _⟩

theorem sin_call (n : Int) (w : World) :
    Calls Try.prog 21 #[.int .i64 n] w fun e w' => e = .returned (.int .i64 (sinZ n)) ∧ Below w.heap.size w w' := by
  have p0 : 0 ≤ placeZ n ∧ placeZ n < 16 := by unfold placeZ; omega
  unfold sinZ
  generalize hp : placeZ n = p at *
  go_enter Try.func21, Try.ntmps21
  go_wp2_with (go_at_call 26; refine (place_call _ _).mono ?_; rintro e w' ⟨rfl, rfl⟩)
  go_ret
  exact ⟨tab_get tabS _ _, below_new (Below.refl _ w) _⟩

theorem sixteenth_call (n : Int) (w : World) :
    Calls Try.prog 24 #[.int .i64 n] w fun e w' => e = .returned (.int .i64 (placeZ n)) ∧ w' = w := by
  obtain ⟨b, c, d⟩ := rest16 n
  have e : Hid ((n.tmod 16 + 16).tmod 16 = n % 16) := b
  clear b
  go_enter Try.func24, Try.ntmps24
  go_wp2
  all_goals go_ret
  all_goals (refine ⟨ret_int ?_, rfl⟩; unfold placeZ; have b := e.out; rw [Int.tmod_eq_emod_of_nonneg (by omega)] at b; exact b)

theorem refCos_call (n : Int) (w : World) :
    Calls Try.prog 16 #[.int .i64 n] w fun e w' => e = .returned (.int .i64 (cosZ n)) ∧ Below w.heap.size w w' := by
  have p0 : 0 ≤ placeZ n ∧ placeZ n < 16 := by unfold placeZ; omega
  unfold cosZ
  generalize hp : placeZ n = p at *
  go_enter Try.func16, Try.ntmps16
  go_wp2_with (go_at_call 24; refine (sixteenth_call _ _).mono ?_; rintro e w' ⟨rfl, rfl⟩)
  go_ret
  exact ⟨tab_get tabC _ _, below_new (Below.refl _ w) _⟩

theorem refSin_call (n : Int) (w : World) :
    Calls Try.prog 17 #[.int .i64 n] w fun e w' => e = .returned (.int .i64 (sinZ n)) ∧ Below w.heap.size w w' := by
  have p0 : 0 ≤ placeZ n ∧ placeZ n < 16 := by unfold placeZ; omega
  unfold sinZ
  generalize hp : placeZ n = p at *
  go_enter Try.func17, Try.ntmps17
  go_wp2_with (go_at_call 24; refine (sixteenth_call _ _).mono ?_; rintro e w' ⟨rfl, rfl⟩)
  go_ret
  exact ⟨tab_get tabS _ _, below_new (Below.refl _ w) _⟩

end Go.Proofs.Ytjbjclphomeafaa

