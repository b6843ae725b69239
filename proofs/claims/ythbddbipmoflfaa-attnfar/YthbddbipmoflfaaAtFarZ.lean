/- A row whose score lies far below the others changes nothing. -/
import Derived.Test.YthbddbipmoflfaaRows
import Derived.Test.YthbddbipmoflfaaSat
import Derived.Test.YthbddbipmoflfaaAdds
import Derived.Test.YthbddbipmoflfaaView
import Derived.Test.YthbddbipmoflfaaOwn
import Derived.Test.YthbddbipmoflfaaExp
import Derived.Test.YthbddbipmoflfaaOrder
import Derived.Test.YthbddbipmoflfaaRoot
import Derived.Test.YthbddbipmoflfaaDots
import Derived.Test.YthbddbipmoflfaaSoft
import Derived.Test.YthbddbipmoflfaaParts
import Derived.Test.YthbddbipmoflfaaMean
import Derived.Test.YthbddbipmoflfaaAtPlain
import Derived.Test.YthbddbipmoflfaaAtOneZ
import Derived.WalkKit
import Derived.ProofKit
import Derived.OpenShut
import Derived.Below
import Derived.WalkLawsBesides
import Derived.Deep.QuietTactic
import Derived.BigQuiet
namespace Go.Proofs.Ythbddbipmoflfaa
open Go.ChangeShapes Go.WideShapes Go.ChangeAt Go.RowKit
set_option linter.unusedVariables false
set_option linter.unusedSimpArgs false

/-- v put in at place j -/
def ins {α : Type} (f : Nat → α) (j : Nat) (v : α) (r : Nat) : α := if r < j then f r else if r = j then v else f (r - 1)

theorem ins_lt {α : Type} (f : Nat → α) {j : Nat} (v : α) {r : Nat} (h : r < j) : ins f j v r = f r := by unfold ins; rw [if_pos h]
theorem ins_at {α : Type} (f : Nat → α) (j : Nat) (v : α) : ins f j v j = v := by unfold ins; rw [if_neg (by omega), if_pos rfl]
theorem ins_gt {α : Type} (f : Nat → α) {j : Nat} (v : α) {r : Nat} (h : j ≤ r) : ins f j v (r + 1) = f r := by unfold ins; rw [if_neg (by omega), if_neg (by omega)]; rfl
theorem ins_map {α β : Type} (g : α → β) (f : Nat → α) (j : Nat) (v : α) (r : Nat) : g (ins f j v r) = ins (fun i => g (f i)) j (g v) r := by unfold ins; split; rfl; split <;> rfl

theorem top_ins (b : Int) (z z' : List Int) (j n : Nat) (sf : Int) (hj : j ≤ n) (h : ∀ i, i < n + 1 → z'.getD i 0 = ins (fun i => z.getD i 0) j sf i) :
    (∀ k, k ≤ j → topZ b z' k = topZ b z k) ∧ ∀ k, j ≤ k → k ≤ n → topZ b z' (k + 1) = max (topZ b z k) (clampZ sf) := by
  have lo : ∀ k, k ≤ j → topZ b z' k = topZ b z k := by
    intro k
    induction k with
    | zero => intro _; rfl
    | succ k ih =>
      intro hk
      show max (topZ b z' k) (clampZ (z'.getD k 0)) = max (topZ b z k) (clampZ (z.getD k 0))
      rw [ih (by omega), h k (by omega), ins_lt _ _ (by omega)]
  refine ⟨lo, ?_⟩
  intro k
  induction k with
  | zero =>
    intro h1 h2
    obtain rfl : j = 0 := by omega
    show max (topZ b z' 0) (clampZ (z'.getD 0 0)) = _
    rw [h 0 (by omega), ins_at]
    rfl
  | succ k ih =>
    intro h1 h2
    show max (topZ b z' (k + 1)) (clampZ (z'.getD (k + 1) 0)) = max (max (topZ b z k) (clampZ (z.getD k 0))) (clampZ sf)
    rw [h (k + 1) (by omega)]
    by_cases e : j = k + 1
    · subst e
      rw [lo (k + 1) (by omega), ins_at]
      rfl
    · rw [ih (by omega) (by omega), ins_gt _ _ (by omega)]
      omega

theorem top_least (b : Int) (z : List Int) (i n : Nat) (h : i < n) : clampZ (z.getD i 0) ≤ topZ b z n := by
  induction n with
  | zero => omega
  | succ n ih =>
    show _ ≤ max (topZ b z n) (clampZ (z.getD n 0))
    by_cases e : i = n
    · subst e; omega
    · have := ih (by omega); omega

theorem sum_ins (z z' : List Int) (t : Int) (j n : Nat) (sf : Int) (hj : j ≤ n) (h : ∀ i, i < n + 1 → z'.getD i 0 = ins (fun i => z.getD i 0) j sf i) (h0 : expZ (clampZ sf - t) = 0) : sumE z' t (n + 1) = sumE z t n := by
  have lo : ∀ k, k ≤ j → sumE z' t k = sumE z t k := by
    intro k
    induction k with
    | zero => intro _; rfl
    | succ k ih =>
      intro hk
      show sumE z' t k + expZ (clampZ (z'.getD k 0) - t) = sumE z t k + expZ (clampZ (z.getD k 0) - t)
      rw [ih (by omega), h k (by omega), ins_lt _ _ (by omega)]
  have hi : ∀ k, j ≤ k → k ≤ n → sumE z' t (k + 1) = sumE z t k := by
    intro k
    induction k with
    | zero =>
      intro h1 h2
      obtain rfl : j = 0 := by omega
      show sumE z' t 0 + expZ (clampZ (z'.getD 0 0) - t) = _
      rw [h 0 (by omega), ins_at, h0]
      rfl
    | succ k ih =>
      intro h1 h2
      show sumE z' t (k + 1) + expZ (clampZ (z'.getD (k + 1) 0) - t) = sumE z t k + expZ (clampZ (z.getD k 0) - t)
      rw [h (k + 1) (by omega)]
      by_cases e : j = k + 1
      · subst e
        rw [lo (k + 1) (by omega), ins_at, h0]
        show sumE z t k + expZ (clampZ (z.getD k 0) - t) + 0 = _
        omega
      · rw [ih (by omega) (by omega), ins_gt _ _ (by omega)]
  exact hi n hj (Nat.le_refl _)

theorem add_none (x c : Int) (h0 : -9223372036854775808 ≤ x) (h1 : x ≤ 9223372036854775807) : addZ x (0 * c) = x := by
  rw [Int.zero_mul, addZ_in _ _ (by omega) (by omega)]
  omega

theorem blend_ins (s s' : List Int) (V V' : Nat → List Int) (c j n : Nat) (hj : j ≤ n) (h : ∀ i, i < n + 1 → s'.getD i 0 = ins (fun i => s.getD i 0) j 0 i) (vz : List Int) (hV : V' = ins V j vz) : blendTo s' V' c (n + 1) = blendTo s V c n := by
  have lo : ∀ k, k ≤ j → blendTo s' V' c k = blendTo s V c k := by
    intro k
    induction k with
    | zero => intro _; rfl
    | succ k ih =>
      intro hk
      show addZ (blendTo s' V' c k) (s'.getD k 0 * clampZ ((V' k).getD c 0)) = addZ (blendTo s V c k) (s.getD k 0 * clampZ ((V k).getD c 0))
      rw [ih (by omega), h k (by omega), ins_lt _ _ (by omega), hV, ins_lt _ _ (by omega)]
  have hi : ∀ k, j ≤ k → k ≤ n → blendTo s' V' c (k + 1) = blendTo s V c k := by
    intro k
    induction k with
    | zero =>
      intro h1 h2
      obtain rfl : j = 0 := by omega
      show addZ (blendTo s' V' c 0) (s'.getD 0 0 * clampZ ((V' 0).getD c 0)) = _
      rw [h 0 (by omega), ins_at, lo 0 (by omega), add_none _ _ (by simp [blendTo]) (by simp [blendTo])]
    | succ k ih =>
      intro h1 h2
      show addZ (blendTo s' V' c (k + 1)) (s'.getD (k + 1) 0 * clampZ ((V' (k + 1)).getD c 0)) = addZ (blendTo s V c k) (s.getD k 0 * clampZ ((V k).getD c 0))
      rw [h (k + 1) (by omega)]
      by_cases e : j = k + 1
      · subst e
        have b := blendTo_bounds s V c (k + 1)
        rw [lo (k + 1) (by omega), ins_at, add_none _ _ b.1 b.2]
        rfl
      · rw [ih (by omega) (by omega), ins_gt _ _ (by omega), hV, ins_gt _ _ (by omega)]
  exact hi n hj (Nat.le_refl _)

theorem exp_far (x : Int) (h : x ≤ -1048576) : expZ x = 0 := by
  have h1 := expZ_rises _ _ h
  have h2 := expZ_bounds x
  have h3 : expZ (-1048576) = 0 := by decide +kernel
  omega

theorem div_none (S : Int) : divZ 0 S = 0 := by
  unfold divZ
  split
  · decide
  · rw [show clampZ 0 = 0 from rfl, Int.zero_mul, Int.zero_tdiv]
    decide +kernel

theorem soft_ins (z z' : List Int) (j n : Nat) (sf : Int) (hn : 0 < n) (hj : j ≤ n) (h : ∀ i, i < n + 1 → z'.getD i 0 = ins (fun i => z.getD i 0) j sf i) (hz : -65536 ≤ clampZ (z.getD 0 0)) (hs : clampZ sf ≤ -2000000) :
    ∀ i, i < n + 1 → (softZ z' (n + 1)).getD i 0 = ins (fun i => (softZ z n).getD i 0) j 0 i := by
  have tl := top_least (-2147483648) z 0 n hn
  have et : topZ (-2147483648) z' (n + 1) = topZ (-2147483648) z n := by
    rw [(top_ins _ z z' j n sf hj h).2 n hj (Nat.le_refl _)]
    omega
  have e0 : expZ (clampZ sf - topZ (-2147483648) z n) = 0 := exp_far _ (by omega)
  have es := sum_ins z z' (topZ (-2147483648) z n) j n sf hj h e0
  intro i hi
  rw [soft_at z' (n + 1) i hi, et, es]
  unfold shareF powE
  rw [h i hi]
  rcases Nat.lt_trichotomy i j with e | e | e
  · rw [ins_lt _ _ e, ins_lt _ _ e, soft_at z n i (by omega)]
    rfl
  · subst e
    rw [ins_at, ins_at, e0, div_none]
  · obtain ⟨r, rfl⟩ : ∃ r, i = r + 1 := ⟨i - 1, by omega⟩
    rw [ins_gt _ _ (by omega), ins_gt _ _ (by omega), soft_at z n r (by omega)]
    rfl

/-- one at the first place, nought at the others -/
def firstZ (u : Int) (n : Nat) : List Int := (List.replicate n 0).set 0 u

theorem first_at (u : Int) (n k : Nat) (h : k < n) : (firstZ u n).getD k 0 = if k = 0 then u else 0 := by
  unfold firstZ
  by_cases e : k = 0
  · subst e; simp [List.getD, h]
  · rw [if_neg e]
    simp [List.getD, h, Ne.symm e]

theorem first_length (u : Int) (n : Nat) : (firstZ u n).length = n := by simp [firstZ]

theorem sum_first (x : List Int) (n k : Nat) (hk : k + 1 ≤ n) : sumZ (firstZ 65536 n) x (k + 1) = 65536 * clampZ (x.getD 0 0) := by
  have c := clampZ_bounds (x.getD 0 0)
  induction k with
  | zero =>
    show addZ 0 (clampZ ((firstZ 65536 n).getD 0 0) * clampZ (x.getD 0 0)) = _
    rw [first_at _ _ _ (by omega), if_pos rfl, show clampZ 65536 = 65536 from rfl, addZ_in _ _ (by omega) (by omega)]
    omega
  | succ k ih =>
    show addZ (sumZ (firstZ 65536 n) x (k + 1)) (clampZ ((firstZ 65536 n).getD (k + 1) 0) * clampZ (x.getD (k + 1) 0)) = _
    rw [ih (by omega), first_at _ _ _ (by omega), if_neg (by omega), show clampZ 0 = 0 from rfl, add_none _ _ (by omega) (by omega)]

theorem dot_first (x : List Int) (n : Nat) (hn : 0 < n) (h0 : -2147483648 ≤ x.getD 0 0) (h1 : x.getD 0 0 ≤ 2147483647) : dotZ (firstZ 65536 n) x 16 = x.getD 0 0 := by
  unfold dotZ
  obtain ⟨k, rfl⟩ : ∃ k, n = k + 1 := ⟨n - 1, by omega⟩
  rw [first_length, sum_first x (k + 1) k (by omega), clamp_in _ h0 h1, shift_whole _ h0 h1, clamp_in _ h0 h1]

theorem root_few (n : Nat) (h0 : 0 < n) (h1 : n ≤ 8) : 23000 ≤ rsqrtZ ((n : Int) * 65536) ∧ rsqrtZ ((n : Int) * 65536) ≤ 65536 := by
  have key : ∀ m : Fin 9, 0 < m.val → 23000 ≤ rsqrtZ ((m.val : Int) * 65536) ∧ rsqrtZ ((m.val : Int) * 65536) ≤ 65536 := by decide +kernel
  exact key ⟨n, by omega⟩ h0

theorem shift16 (x : Int) : shiftZ x 16 = if x < 0 then -((-x / 32768 + 1) / 2) else (x / 32768 + 1) / 2 := by
  unfold shiftZ shN
  rw [if_neg (by decide), show min (16 : Int) 62 = 16 by decide, show ((16 : Int).toNat - 1) = 15 by decide, show ((2 : Int) ^ 15) = 32768 by decide]

theorem mul_near (a r : Int) (h0 : -65536 ≤ a) (h1 : a ≤ 65536) (r0 : 23000 ≤ r) (r1 : r ≤ 65536) : -65536 ≤ mulZ a r ∧ mulZ a r ≤ 65536 := by
  have p : (a * r).natAbs ≤ 65536 * 65536 := by
    rw [Int.natAbs_mul]
    exact Nat.mul_le_mul (by omega) (by omega)
  unfold mulZ
  rw [clamp_in a (by omega) (by omega), clamp_in r (by omega) (by omega), wrap64_eq]
  generalize a * r = x at *
  rw [show (x + 9223372036854775808) % 18446744073709551616 - 9223372036854775808 = x by omega, shift16]
  have e : -65536 ≤ (if x < 0 then -((-x / 32768 + 1) / 2) else (x / 32768 + 1) / 2) ∧ (if x < 0 then -((-x / 32768 + 1) / 2) else (x / 32768 + 1) / 2) ≤ 65536 := by split <;> omega
  rw [clamp_in _ (by omega) (by omega)]
  exact e

theorem mul_far (r : Int) (r0 : 23000 ≤ r) (r1 : r ≤ 65536) : clampZ (mulZ (-67108864) r) ≤ -2000000 := by
  unfold mulZ
  rw [show clampZ (-67108864) = -67108864 from rfl, clamp_in r (by omega) (by omega), wrap64_eq]
  rw [show (-67108864 * r + 9223372036854775808) % 18446744073709551616 - 9223372036854775808 = -67108864 * r by omega, shift16]
  rw [if_pos (by omega)]
  have e : -67108864 ≤ -((-(-67108864 * r) / 32768 + 1) / 2) ∧ -((-(-67108864 * r) / 32768 + 1) / 2) ≤ -2000000 := by omega
  have c := clamp_in (-((-(-67108864 * r) / 32768 + 1) / 2)) (by omega) (by omega)
  rw [c, c]
  exact e.2

theorem scores_at (q : List Int) (K : Nat → List Int) (d n i : Nat) (h : i < n) : (scoresZ q K d n).getD i 0 = scoreF q K d i := by simp [scoresZ, h]

theorem head_far (K V : Nat → List Int) (vz : List Int) (d n j : Nat) (hd : 0 < d) (hd8 : d ≤ 8) (hn : 0 < n) (hj : j ≤ n) (hK : ∀ i, i < n → -65536 ≤ (K i).getD 0 0 ∧ (K i).getD 0 0 ≤ 65536) :
    headZ (firstZ 65536 d) (ins K j (firstZ (-67108864) d)) (ins V j vz) d (n + 1) = headZ (firstZ 65536 d) K V d n := by
  have r := root_few d hd hd8
  have near : ∀ i, i < n → -65536 ≤ scoreF (firstZ 65536 d) K d i ∧ scoreF (firstZ 65536 d) K d i ≤ 65536 := fun i hi => by
    have k := hK i hi
    unfold scoreF
    rw [dot_first _ _ hd (by omega) (by omega)]
    exact mul_near _ _ k.1 k.2 r.1 r.2
  have fd : (firstZ (-67108864) d).getD 0 0 = -67108864 := by rw [first_at _ _ _ hd]; rfl
  have es : ∀ i, i < n + 1 → (scoresZ (firstZ 65536 d) (ins K j (firstZ (-67108864) d)) d (n + 1)).getD i 0 = ins (fun i => (scoresZ (firstZ 65536 d) K d n).getD i 0) j (mulZ (-67108864) (rsqrtZ ((d : Int) * 65536))) i := by
    intro i hi
    rw [scores_at _ _ _ _ _ hi]
    rcases Nat.lt_trichotomy i j with e | e | e
    · unfold scoreF
      rw [ins_lt _ _ e, ins_lt _ _ e, scores_at _ _ _ _ _ (by omega)]
      rfl
    · subst e
      unfold scoreF
      rw [ins_at, ins_at, dot_first _ _ hd (by omega) (by omega), fd]
    · obtain ⟨m, rfl⟩ : ∃ m, i = m + 1 := ⟨i - 1, by omega⟩
      unfold scoreF
      rw [ins_gt _ _ (by omega), ins_gt _ _ (by omega), scores_at _ _ _ _ _ (by omega)]
      rfl
  have sh := soft_ins _ _ j n _ hn hj es (by rw [scores_at _ _ _ _ _ hn, clamp_in _ (by have := near 0 hn; omega) (by have := near 0 hn; omega)]; exact (near 0 hn).1) (mul_far _ r.1 r.2)
  unfold headZ
  refine List.map_congr_left fun c _ => ?_
  unfold blendZ
  rw [blend_ins _ _ V _ c j n hj sh vz rfl]

end Go.Proofs.Ythbddbipmoflfaa
