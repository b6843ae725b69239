/- What the program's Turn gives back, whatever row and place: the contract of the call. -/
import Derived.Test.YtjbjclphomeafaaRows
import Derived.Test.YtjbjclphomeafaaSat
import Derived.Test.YtjbjclphomeafaaView
import Derived.Test.YtjbjclphomeafaaOwn
import Derived.Test.YtjbjclphomeafaaTabs
import Derived.Test.YtjbjclphomeafaaPair
import Derived.Test.YtjbjclphomeafaaTurn
import Derived.WalkKit
import Derived.ProofKit
import Derived.OpenShut
import Derived.Below
import Derived.WalkLawsBesides
namespace Go.Proofs.Ytjbjclphomeafaa
open Go.ChangeShapes Go.WideShapes Go.ChangeAt Go.RowKit
set_option linter.unusedVariables false

/-- the error that Turn answers, 0 being none -/
def turnE (n : Nat) (p : Int) : Int := if n % 2 = 1 then 21 else if p < 0 ∨ 1000 < p then 20 else 0
/-- the row that Turn answers -/
def turnR (xs : List Int) (p : Int) (n : Nat) : List Int := if turnE n p = 0 then turnZ xs p n else []

theorem turnE_odd {n : Nat} {p : Int} (h : n % 2 = 1) : turnE n p = 21 := by unfold turnE; rw [if_pos h]
theorem turnE_far {n : Nat} {p : Int} (h : ¬n % 2 = 1) (h' : p < 0 ∨ 1000 < p) : turnE n p = 20 := by unfold turnE; rw [if_neg h, if_pos h']
theorem turnE_ok {n : Nat} {p : Int} (h : ¬n % 2 = 1) (h' : ¬(p < 0 ∨ 1000 < p)) : turnE n p = 0 := by unfold turnE; rw [if_neg h, if_neg h']
theorem turnE_cases (n : Nat) (p : Int) : turnE n p = 21 ∨ turnE n p = 20 ∨ turnE n p = 0 := by
  unfold turnE
  repeat' split
  all_goals simp
theorem turnR_no {xs : List Int} {p : Int} {n : Nat} (h : turnE n p ≠ 0) : turnR xs p n = [] := by unfold turnR; rw [if_neg h]
theorem turnR_ok {xs : List Int} {p : Int} {n : Nat} (h : turnE n p = 0) : turnR xs p n = turnZ xs p n := by unfold turnR; rw [if_pos h]

/-- a nil row of the call's own has no room -/
theorem own_none {w : World} {B : Nat} {e : TypeId} {a : Option Addr} {n m c : Nat} {cs : List Value} (h : w.ownsRow B e 1 (.slice a n c) m cs) : a = none → c = 0 := by
  intro ha
  subst ha
  rcases h.2 with ⟨h, _⟩ | ⟨g, cap, cur, h, _⟩
  · simp only [Value.slice.injEq] at h
    exact h.2.2
  · simp at h

theorem turn_odd (a0 : Option Addr) (n c0 : Nat) (p : Int) (w : World) (h : n % 2 = 1) :
    Calls Try.prog 8 #[.slice a0 n c0, .int .i64 p] w fun e w' => e = .returned (.tuple #[.slice none 0 0, .int .i64 21]) ∧ w' = w := by
  have ev : ((n : Int) % 2 == 0) = false := by simp; omega
  go_enter Try.func8, Try.ntmps8
  go_wp2_with fail
  go_ret2
  exact ⟨rfl, rfl⟩

theorem turn_far (a0 : Option Addr) (n c0 : Nat) (p : Int) (w : World) (h : ¬n % 2 = 1) (h' : p < 0 ∨ 1000 < p) :
    Calls Try.prog 8 #[.slice a0 n c0, .int .i64 p] w fun e w' => e = .returned (.tuple #[.slice none 0 0, .int .i64 20]) ∧ w' = w := by
  have ev : ((n : Int) % 2 == 0) = true := by simp; omega
  rcases h' with h' | h'
  · go_enter Try.func8, Try.ntmps8
    go_wp2_with fail
    go_ret2
    exact ⟨rfl, rfl⟩
  · go_enter Try.func8, Try.ntmps8
    go_wp2_with fail
    go_ret2
    exact ⟨rfl, rfl⟩

theorem turn_call (a0 : Option Addr) (n c0 : Nat) (xs : List Int) (p : Int) (w : World) (h0 : Reads .i64 w a0 n xs) (hb : n * 8 ≤ 281474976710656) :
    Calls Try.prog 8 #[.slice a0 n c0, .int .i64 p] w fun e w' => (∃ a m c, e = .returned (.tuple #[.slice a m c, .int .i64 (turnE n p)]) ∧ Reads .i64 w' a m (turnR xs p n) ∧ (a = none → c = 0)) ∧ Below w.heap.size w w' := by
  by_cases h : n % 2 = 1
  · rw [turnR_no (by rw [turnE_odd h]; decide), turnE_odd h]
    exact (turn_odd _ _ _ _ _ h).mono fun e w' ⟨he, hw⟩ => ⟨⟨none, 0, 0, he, Reads.nil _ _, fun _ => rfl⟩, hw ▸ Below.refl _ _⟩
  · by_cases h' : p < 0 ∨ 1000 < p
    · rw [turnR_no (by rw [turnE_far h h']; decide), turnE_far h h']
      exact (turn_far _ _ _ _ _ h h').mono fun e w' ⟨he, hw⟩ => ⟨⟨none, 0, 0, he, Reads.nil _ _, fun _ => rfl⟩, hw ▸ Below.refl _ _⟩
    · rw [turnR_ok (turnE_ok h h'), turnE_ok h h']
      obtain ⟨k, rfl⟩ : ∃ k, n = 2 * k := ⟨n / 2, by omega⟩
      exact (turn_ok _ _ _ _ _ _ h0 (by omega) hb).mono fun e w' ⟨⟨a, c, he, hr, ha⟩, hw⟩ => ⟨⟨a, _, c, he, hr, ha⟩, hw⟩

end Go.Proofs.Ytjbjclphomeafaa
