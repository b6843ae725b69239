/- What is chosen, as plain functions: shares, their sums, the place that a number reaches. -/
import Derived.Test.YtkoifogkdbhpcaaRows
import Derived.Test.YtkoifogkdbhpcaaSat
import Derived.Test.YtkoifogkdbhpcaaArith
import Derived.Test.YtkoifogkdbhpcaaSoft
import Derived.Test.YtkoifogkdbhpcaaRanks
import Derived.Test.YtkoifogkdbhpcaaRank
namespace Go.Proofs.Ytkoifogkdbhpcaa
open Go.ChangeShapes Go.WideShapes Go.ChangeAt Go.RowKit
set_option maxRecDepth 20000
set_option linter.unusedVariables false

/-- the score of the j-th place, divided by the heat -/
def coolF (xs : List Int) (h : Int) (j : Nat) : Int := divZ (xs.getD ((places xs).getD j 0) 0) h
def coolZ (xs : List Int) (h : Int) (m : Nat) : List Int := (List.range m).map (coolF xs h)
/-- the shares of the first m places -/
def shZ (xs : List Int) (h : Int) (m : Nat) : List Int := softZ (coolZ xs h m) m
/-- the sum of the first j -/
def upTo (p : List Int) : Nat → Int
  | 0 => 0
  | j + 1 => upTo p j + p.getD j 0
/-- the first of m places at which a number falls below nought -/
def seatZ (p : List Int) (m : Nat) (r : Int) : Nat := ((List.range m).find? fun i => decide (r < upTo p (i + 1))).getD 0
def manyZ (xs : List Int) (k : Int) : Nat := min k.toNat xs.length
def chooseZ (xs : List Int) (k h u : Int) : Int :=
  if h < 1 ∨ k < 2 then maxZ xs else if upTo (shZ xs h (manyZ xs k)) (manyZ xs k) = 0 then maxZ xs
  else ((places xs).getD (seatZ (shZ xs h (manyZ xs k)) (manyZ xs k) (u % upTo (shZ xs h (manyZ xs k)) (manyZ xs k))) 0 : Nat)

/-- members from nought to 2^31 - 1 -/
def Fair (p : List Int) : Prop := ∀ j, 0 ≤ p.getD j 0 ∧ p.getD j 0 ≤ 2147483647

theorem share_fair (z : List Int) (t S : Int) (hS : 0 ≤ S) (j : Nat) : 0 ≤ shareF z t S j ∧ shareF z t S j ≤ 2147483647 := by
  have b := powE_bounds z t j
  unfold shareF divZ
  obtain ⟨P, eP⟩ : ∃ P, powE z t j = P := ⟨_, rfl⟩
  rw [eP] at b ⊢
  have c : clampZ P = P := by unfold clampZ; rw [if_neg (by omega), if_neg (by omega)]
  rw [c]
  split
  · unfold noughtZ
    repeat' split
    all_goals omega
  · rename_i hn
    have cb := clampZ_bounds S
    have c0 : 0 ≤ clampZ S := by unfold clampZ; repeat' split <;> omega
    obtain ⟨C, eC⟩ : ∃ C, clampZ S = C := ⟨_, rfl⟩
    rw [eC] at hn c0 cb ⊢
    have q0 : 0 ≤ (P * 65536).tdiv C := Int.tdiv_nonneg (by omega) c0
    have q1 : (P * 65536).tdiv C ≤ P * 65536 := by
      rw [Int.tdiv_eq_ediv_of_nonneg (by omega)]
      exact Int.ediv_le_self _ (by omega)
    obtain ⟨Q, eQ⟩ : ∃ Q, (P * 65536).tdiv C = Q := ⟨_, rfl⟩
    rw [eQ] at q0 q1 ⊢
    have ew : wrap64 Q = Q := by rw [wrap64_eq]; omega
    rw [ew]
    have cq := clampZ_bounds Q
    refine ⟨?_, cq.2⟩
    unfold clampZ
    repeat' split
    all_goals omega

theorem getD_range (f : Nat → Int) (m j : Nat) (h : j < m) : ((List.range m).map f).getD j 0 = f j := by simp [List.getD, h]
theorem getD_beyond (f : Nat → Int) (m j : Nat) (h : m ≤ j) : ((List.range m).map f).getD j 0 = 0 := by simp [List.getD, h]

theorem soft_fair (z : List Int) (m : Nat) : Fair (softZ z m) := by
  intro j
  unfold softZ
  by_cases h : j < m
  · rw [getD_range _ _ _ h]
    exact share_fair _ _ _ (sumE_bounds _ _ _).1 _
  · rw [getD_beyond _ _ _ (by omega)]
    omega

theorem upTo_bounds {p : List Int} (hp : Fair p) (j : Nat) : 0 ≤ upTo p j ∧ upTo p j ≤ 2147483647 * (j : Int) := by
  induction j with
  | zero => exact ⟨Int.le_refl _, by simp [upTo]⟩
  | succ j ih =>
    have h := hp j
    show 0 ≤ upTo p j + p.getD j 0 ∧ upTo p j + p.getD j 0 ≤ _
    omega

theorem upTo_succ (p : List Int) (j : Nat) : upTo p (j + 1) = upTo p j + p.getD j 0 := rfl

theorem upTo_mono {p : List Int} (hp : Fair p) {i j : Nat} (h : i ≤ j) : upTo p i ≤ upTo p j := by
  induction j with
  | zero => obtain rfl : i = 0 := by omega
            exact Int.le_refl _
  | succ j ih =>
    by_cases e : i = j + 1
    · rw [e]; exact Int.le_refl _
    · have := ih (by omega)
      have h := hp j
      rw [upTo_succ]
      omega

theorem seat_of {p : List Int} (hp : Fair p) {m i : Nat} {r : Int} (hi : i < m) (h1 : upTo p i ≤ r) (h2 : r < upTo p (i + 1)) : seatZ p m r = i := by
  have e : (List.range m).find? (fun i => decide (r < upTo p (i + 1))) = some i := by
    rw [List.find?_range_eq_some]
    refine ⟨decide_eq_true h2, List.mem_range.2 hi, fun j hj => ?_⟩
    have := upTo_mono hp (show j + 1 ≤ i by omega)
    simp
    omega
  unfold seatZ
  rw [e]
  rfl

theorem seat_ex {p : List Int} {m : Nat} {r : Int} (h0 : 0 ≤ r) (h1 : r < upTo p m) : ∃ i, i < m ∧ upTo p i ≤ r ∧ r < upTo p (i + 1) := by
  induction m with
  | zero => have : upTo p 0 = 0 := rfl
            omega
  | succ m ih =>
    by_cases h : r < upTo p m
    · obtain ⟨i, hi, h2⟩ := ih h
      exact ⟨i, by omega, h2⟩
    · exact ⟨m, by omega, by omega, h1⟩

theorem seat_lt {p : List Int} (hp : Fair p) {m : Nat} {r : Int} (h0 : 0 ≤ r) (h1 : r < upTo p m) : seatZ p m r < m := by
  obtain ⟨i, hi, h2, h3⟩ := seat_ex h0 h1
  rw [seat_of hp hi h2 h3]
  exact hi

end Go.Proofs.Ytkoifogkdbhpcaa
