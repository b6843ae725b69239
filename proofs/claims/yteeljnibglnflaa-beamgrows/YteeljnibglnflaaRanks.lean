/- The order of places: plain functions and what holds of them. -/
import Derived.Test.YteeljnibglnflaaRows
namespace Go.Proofs.Yteeljnibglnflaa

set_option maxRecDepth 20000

set_option linter.unusedVariables false

/-- place i stands ahead of place j -/
def ahead (xs : List Int) (i j : Nat) : Bool := decide (xs.getD j 0 < xs.getD i 0 ∨ (xs.getD i 0 = xs.getD j 0 ∧ i < j))

theorem ahead_iff (xs : List Int) (i j : Nat) : ahead xs i j = true ↔ (xs.getD j 0 < xs.getD i 0 ∨ (xs.getD i 0 = xs.getD j 0 ∧ i < j)) := by
  unfold ahead
  exact decide_eq_true_iff

theorem ahead_not (xs : List Int) (i j : Nat) : ahead xs i j = false ↔ ¬(xs.getD j 0 < xs.getD i 0 ∨ (xs.getD i 0 = xs.getD j 0 ∧ i < j)) := by
  rw [← ahead_iff]
  simp

theorem ahead_irrefl (xs : List Int) (i : Nat) : ahead xs i i = false := by rw [ahead_not]; omega

theorem ahead_asymm {xs : List Int} {i j : Nat} (h : ahead xs i j = true) : ahead xs j i = false := by rw [ahead_iff] at h; rw [ahead_not]; omega

theorem ahead_ntrans {xs : List Int} {i j k : Nat} (h : ahead xs i j = false) (h' : ahead xs j k = false) : ahead xs i k = false := by rw [ahead_not] at *; omega

theorem ahead_total {xs : List Int} {i j : Nat} (h : ahead xs i j = false) (h' : ahead xs j i = false) : i = j := by rw [ahead_not] at *; omega

/-- how many of the first n places stand ahead of i -/
def rankTo (xs : List Int) (n i : Nat) : Nat := (List.range n).countP fun j => ahead xs j i

theorem rankTo_succ (xs : List Int) (n i : Nat) : rankTo xs (n + 1) i = rankTo xs n i + (if ahead xs n i = true then 1 else 0) := by
  unfold rankTo
  rw [List.range_succ, List.countP_append]
  congr 1
  simp [List.countP_cons]

theorem rankTo_le (xs : List Int) (n i : Nat) : rankTo xs n i ≤ n := by
  unfold rankTo
  have := List.countP_le_length (p := fun j => ahead xs j i) (l := List.range n)
  simpa using this

/-- the places in their order -/
def places (xs : List Int) : List Nat := (List.range xs.length).mergeSort fun i j => !ahead xs j i

/-- a list of places is in order, and has each of the n places once -/
def Ordered (xs : List Int) (n : Nat) (L : List Nat) : Prop := L.Perm (List.range n) ∧ L.Pairwise fun i j => ahead xs i j = true

theorem places_ordered (xs : List Int) : Ordered xs xs.length (places xs) := by
  have hp : (places xs).Perm (List.range xs.length) := List.mergeSort_perm _ _
  refine ⟨hp, ?_⟩
  have hs : (places xs).Pairwise fun i j => (!ahead xs j i) = true := by
    unfold places
    refine List.pairwise_mergeSort (fun a b c h1 h2 => ?_) (fun a b => ?_) _
    · simp only [Bool.not_eq_true'] at *
      exact ahead_ntrans h2 h1
    · cases h : ahead xs b a
      · simp
      · simp [ahead_asymm h]
  have hn : (places xs).Nodup := hp.nodup_iff.2 List.nodup_range
  refine (hs.and hn).imp fun {i j} ⟨h1, h2⟩ => ?_
  cases h : ahead xs i j
  · simp only [Bool.not_eq_true'] at h1
    exact absurd (ahead_total h h1) h2
  · rfl

theorem Ordered.length {xs : List Int} {n : Nat} {L : List Nat} (h : Ordered xs n L) : L.length = n := by rw [h.1.length_eq]; simp

theorem Ordered.lt {xs : List Int} {n : Nat} {L : List Nat} (h : Ordered xs n L) {m : Nat} (hm : m < n) : L.getD m 0 < n := by
  have hl := h.length
  have e : L.getD m 0 = L[m] := by simp [List.getD, hl, hm]
  rw [e]
  exact List.mem_range.1 (h.1.mem_iff.1 (List.getElem_mem _))

theorem Ordered.at {xs : List Int} {n : Nat} {L : List Nat} (h : Ordered xs n L) {i : Nat} (hi : i < n) : ∃ m, m < n ∧ L.getD m 0 = i := by
  have hm : i ∈ L := h.1.mem_iff.2 (List.mem_range.2 hi)
  obtain ⟨m, hm, e⟩ := List.getElem_of_mem hm
  exact ⟨m, by rw [← h.length]; exact hm, by simp [List.getD, hm, e]⟩

theorem count_at (xs : List Int) (L : List Nat) (h : L.Pairwise fun i j => ahead xs i j = true) (m : Nat) (hm : m < L.length) : L.countP (fun j => ahead xs j (L.getD m 0)) = m := by
  induction L generalizing m with
  | nil => simp at hm
  | cons x L ih =>
    obtain ⟨h1, h2⟩ := List.pairwise_cons.1 h
    cases m with
    | zero =>
      rw [List.countP_eq_zero]
      intro y hy
      rcases List.mem_cons.1 hy with e | e
      · rw [e]; simp [ahead_irrefl]
      · simp [ahead_asymm (h1 y e)]
    | succ m =>
      have hm' : m < L.length := by simpa using hm
      have e : (x :: L).getD (m + 1) 0 = L.getD m 0 := by simp [List.getD]
      have e2 : L.getD m 0 ∈ L := by
        have : L.getD m 0 = L[m] := by simp [List.getD, hm']
        rw [this]
        exact List.getElem_mem _
      rw [e, List.countP_cons_of_pos (p := fun j => ahead xs j (L.getD m 0)) (h1 _ e2), ih h2 m hm']

/-- the rank of the m-th is m -/
theorem Ordered.rank {xs : List Int} {n : Nat} {L : List Nat} (h : Ordered xs n L) {m : Nat} (hm : m < n) : rankTo xs n (L.getD m 0) = m := by
  unfold rankTo
  rw [← h.1.countP_eq]
  exact count_at xs L h.2 m (by rw [h.length]; exact hm)

theorem Ordered.rank_iff {xs : List Int} {n : Nat} {L : List Nat} (h : Ordered xs n L) {i k : Nat} (hi : i < n) (hk : k < n) : rankTo xs n i = k ↔ L.getD k 0 = i := by
  obtain ⟨m, hm, e⟩ := h.at hi
  constructor
  · intro hr
    rw [← e, h.rank hm] at hr
    rw [← hr, e]
  · intro e'
    rw [← e']
    exact h.rank hk

theorem places_length (xs : List Int) : (places xs).length = xs.length := (places_ordered xs).length

/-- the first k of them, as numbers -/
def pickZ (xs : List Int) (k : Int) : List Int := ((places xs).take k.toNat).map fun (i : Nat) => (i : Int)

theorem topZ_length (xs : List Int) (k : Int) : (pickZ xs k).length = min k.toNat xs.length := by simp [pickZ, places_length]

theorem topZ_at (xs : List Int) (k : Int) (j : Nat) (h : j < min k.toNat xs.length) : (pickZ xs k).getD j 0 = ((places xs).getD j 0 : Nat) := by
  have h1 : j < k.toNat := by omega
  have h2 : j < (places xs).length := by rw [places_length]; omega
  simp [pickZ, List.getD, h1, h2]

end Go.Proofs.Yteeljnibglnflaa
