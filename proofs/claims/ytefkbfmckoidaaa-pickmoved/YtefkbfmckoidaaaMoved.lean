/- Rows whose order of places is the same; a row with one number more that is less than all. -/
import Derived.Test.YtefkbfmckoidaaaRows
import Derived.Test.YtefkbfmckoidaaaOrder
import Derived.Test.YtefkbfmckoidaaaTop
namespace Go.Proofs.Ytefkbfmckoidaaa
set_option linter.unusedVariables false

theorem ordered_of {xs ys : List Int} {n : Nat} {L : List Nat} (h : Ordered xs n L) (e : ∀ i j, i < n → j < n → ahead xs i j = true → ahead ys i j = true) : Ordered ys n L := by
  refine ⟨h.1, h.2.imp_of_mem fun {i j} hi hj hij => e i j ?_ ?_ hij⟩
  · exact List.mem_range.1 (h.1.mem_iff.1 hi)
  · exact List.mem_range.1 (h.1.mem_iff.1 hj)

/-- the same order -/
theorem places_same {xs ys : List Int} (h : ys.length = xs.length) (e : ∀ i j, i < xs.length → j < xs.length → ahead xs i j = true → ahead ys i j = true) : places ys = places xs := by
  refine places_of ?_
  rw [h]
  exact ordered_of (places_ordered xs) e

theorem snoc_old (xs : List Int) (y : Int) (i : Nat) (h : i < xs.length) : (xs ++ [y]).getD i 0 = xs.getD i 0 := by
  simp [List.getD, List.getElem?_append_left h]
theorem snoc_new (xs : List Int) (y : Int) : (xs ++ [y]).getD xs.length 0 = y := by
  simp [List.getD]

/-- one more, less than all: it stands last -/
theorem places_snoc (xs : List Int) (y : Int) (h : ∀ j, j < xs.length → y < xs.getD j 0) : places (xs ++ [y]) = places xs ++ [xs.length] := by
  refine places_of ?_
  have hl : (xs ++ [y]).length = xs.length + 1 := by simp
  rw [hl]
  have o := places_ordered xs
  have o' : Ordered (xs ++ [y]) xs.length (places xs) := ordered_of o fun i j hi hj hij => by
    rw [ahead_iff] at hij ⊢
    rw [snoc_old xs y i hi, snoc_old xs y j hj]
    exact hij
  refine ⟨?_, ?_⟩
  · rw [List.range_succ]
    exact o.1.append_right _
  · rw [List.pairwise_append]
    refine ⟨o'.2, List.pairwise_singleton _ _, fun i hi j hj => ?_⟩
    have hi' := List.mem_range.1 (o.1.mem_iff.1 hi)
    obtain rfl : j = xs.length := by simpa using hj
    rw [ahead_iff, snoc_old xs y i hi', snoc_new]
    exact .inl (h i hi')

theorem allZ_same {xs ys : List Int} (h : ys.length = xs.length) (e : ∀ i j, i < xs.length → j < xs.length → ahead xs i j = true → ahead ys i j = true) : allZ ys = allZ xs := by
  unfold allZ
  rw [places_same h e]
theorem allZ_snoc (xs : List Int) (y : Int) (h : ∀ j, j < xs.length → y < xs.getD j 0) : allZ (xs ++ [y]) = allZ xs ++ [(xs.length : Int)] := by
  unfold allZ
  rw [places_snoc xs y h]
  simp

/-- the numbers of a function, one behind the other -/
def rowOf (F : Nat → Int) (n : Nat) : List Int := (List.range n).map F

theorem rowOf_length (F : Nat → Int) (n : Nat) : (rowOf F n).length = n := by simp [rowOf]
theorem rowOf_at (F : Nat → Int) (n j : Nat) (h : j < n) : (rowOf F n).getD j 0 = F j := by simp [rowOf, List.getD, h]

theorem rowOf_moved (F : Nat → Int) (b : Int) (n : Nat) : allZ (rowOf (fun j => F j + b) n) = allZ (rowOf F n) := by
  refine allZ_same (by rw [rowOf_length, rowOf_length]) fun i j hi hj h => ?_
  rw [rowOf_length] at hi hj
  rw [ahead_iff] at h ⊢
  rw [rowOf_at _ _ _ hi, rowOf_at _ _ _ hj] at h ⊢
  omega

/-- the least of the first k, and of a great number -/
def lowZ (F : Nat → Int) : Nat → Int
  | 0 => 1125899906842624
  | k + 1 => min (lowZ F k) (F k)

theorem lowZ_le (F : Nat → Int) (n j : Nat) (h : j < n) : lowZ F n ≤ F j := by
  induction n with
  | zero => omega
  | succ n ih =>
    have e : lowZ F (n + 1) = min (lowZ F n) (F n) := rfl
    by_cases hj : j = n
    · subst hj; omega
    · have := ih (by omega); omega
theorem lowZ_bounds (F : Nat → Int) (hF : ∀ j, -1099511627776 < F j ∧ F j < 1099511627776) (n : Nat) : -1099511627776 < lowZ F n ∧ lowZ F n ≤ 1125899906842624 := by
  induction n with
  | zero =>
    have e : lowZ F 0 = 1125899906842624 := rfl
    omega
  | succ n ih =>
    have e : lowZ F (n + 1) = min (lowZ F n) (F n) := rfl
    have := hF n
    omega

theorem tmod_bounds (x : Int) : -1099511627776 < x.tmod 1099511627776 ∧ x.tmod 1099511627776 < 1099511627776 := by
  rw [Int.tmod_eq_emod]
  split <;> omega

end Go.Proofs.Ytefkbfmckoidaaa
