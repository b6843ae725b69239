/- One who comes late, as plain values. -/
import Derived.Test.YtkjmlbllpnehlaaRows
import Derived.Test.YtkjmlbllpnehlaaView
import Derived.Test.YtkjmlbllpnehlaaOwn
import Derived.Test.YtkjmlbllpnehlaaBase
import Derived.Test.YtkjmlbllpnehlaaFkZ
import Derived.WalkKit
import Derived.ProofKit
import Derived.OpenShut
import Derived.Below
import Derived.WalkLawsBesides
import Derived.Deep.QuietTactic
import Derived.BigQuiet
namespace Go.Proofs.Ytkjmlbllpnehlaa
set_option maxRecDepth 20000
open Go.ChangeShapes Go.WideShapes Go.ChangeAt Go.RowKit
set_option linter.unusedVariables false
set_option linter.unusedSimpArgs false

/-- i rounds of one alone -/
structure St1 (W T : Int) (i : Nat) (s : Fr) : Prop where
  nn : s.n = 2
  w0 : s.wt 0 = W
  w1 : s.wt 1 = W
  L : s.L = []
  c0 : s.ck 0 = (i : Int) * T
  c1 : s.ck 1 = 0
  tm : s.tm = ((i - 1 : Nat) : Int) * T
def itJ (b j : Nat) : It := ⟨j % 2, ((b + j : Nat) : Int), 10⟩
/-- m things are laid in, of the one and of the other in turn -/
structure St2 (W T : Int) (b m : Nat) (s : Fr) : Prop where
  nn : s.n = 2
  w0 : s.wt 0 = W
  w1 : s.wt 1 = W
  L : s.L = (List.range m).map (itJ b)
  c0 : s.ck 0 = (b : Int) * T
  c1 : s.ck 1 = if m ≤ 1 then 0 else ((b - 1 : Nat) : Int) * T
  tm : s.tm = ((b - 1 : Nat) : Int) * T
/-- p of the one and q of the other are served -/
structure St3 (W T : Int) (b n p q : Nat) (s : Fr) : Prop where
  nn : s.n = 2
  w0 : s.wt 0 = W
  w1 : s.wt 1 = W
  r0 : rowOf s.L 0 = (List.range' p (n - p)).map fun m => itJ b (2 * m)
  r1 : rowOf s.L 1 = (List.range' q (n - q)).map fun m => itJ b (2 * m + 1)
  c0 : s.ck 0 = ((b + p : Nat) : Int) * T
  c1 : s.ck 1 = ((b - 1 + q : Nat) : Int) * T
theorem num2 {s : Fr} (hn : s.n = 2) {t : Nat} (ht : t < 2) : numB s (t : Int) = true := by simp [numB, hn]; omega
theorem mul_le_T {T : Int} (hT : 0 < T) {a b : Nat} (h : a ≤ b) : (a : Int) * T ≤ (b : Int) * T := Int.mul_le_mul_of_nonneg_right (by omega) (by omega)
theorem mul_lt_T {T : Int} (hT : 0 < T) {a b : Nat} (h : a < b) : (a : Int) * T < (b : Int) * T := Int.mul_lt_mul_of_pos_right (by omega) hT
theorem step1 {W T : Int} (hT : 0 < T) (ht : tick 10 W = T) {i : Nat} {s : Fr} (h : St1 W T i s) (id : Int) : addE s 0 id 10 = 0 ∧ St1 W T (i + 1) (nextS (addS s 0 id 10)) := by
  have hb := num2 h.nn (t := 0) (by omega)
  have e0 : addE s 0 id 10 = 0 := by
    unfold addE
    rw [show ((0 : Nat) : Int) = 0 from rfl] at hb
    rw [h.L, hb]
    rfl
  have e1 : addS s 0 id 10 = { s with ck := raised s 0, L := [(⟨0, id, 10⟩ : It)] } := by
    unfold addS
    rw [if_pos e0, h.L]
    rfl
  have er : ∀ j, raised s 0 j = s.ck j := fun j => by
    rw [raised_at]
    split
    · rename_i hc
      rw [hc.2, h.c0, h.tm]
      have := mul_le_T hT (show i - 1 ≤ i by omega)
      omega
    · rfl
  refine ⟨e0, ?_⟩
  obtain ⟨s', es⟩ : ∃ s', addS s 0 id 10 = s' := ⟨_, rfl⟩
  have hL : s'.L = [(⟨0, id, 10⟩ : It)] := by rw [← es, e1]
  have hn : s'.n = 2 := by rw [← es, e1]; exact h.nn
  have hw : ∀ j, s'.wt j = s.wt j := fun j => by rw [← es, e1]
  have hc : ∀ j, s'.ck j = s.ck j := fun j => by rw [← es, e1]; exact er j
  have hb2 : bestTo s' 2 = some 0 := by
    have r0 : rowOf s'.L 0 = [(⟨0, id, 10⟩ : It)] := by rw [hL]; rfl
    have r1 : rowOf s'.L 1 = [] := by rw [hL]; rfl
    simp [bestTo, r0, r1]
  have hO : nextO s' = some (⟨0, id, 10⟩ : It) := by
    unfold nextO
    rw [hn, hb2, hL]
    rfl
  have e2 : nextS s' = { s' with tm := s'.ck 0, ck := upd s'.ck 0 (s'.ck 0 + tick 10 (s'.wt 0)), L := outL s'.L id } := by
    unfold nextS
    rw [hO]
  rw [es, e2]
  refine ⟨hn, (hw 0).trans h.w0, (hw 1).trans h.w1, ?_, ?_, ?_, ?_⟩
  · show outL s'.L id = []
    rw [hL]
    simp [outL]
  · have q : upd s'.ck 0 (s'.ck 0 + tick 10 (s'.wt 0)) 0 = ((i + 1 : Nat) : Int) * T := by
      rw [upd_same, hc, hw, h.w0, ht, h.c0, show ((i + 1 : Nat) : Int) = (i : Int) + 1 by omega, Int.add_mul, Int.one_mul]
    exact q
  · show upd s'.ck 0 (s'.ck 0 + tick 10 (s'.wt 0)) 1 = 0
    rw [upd_other _ _ _ _ (by decide), hc]
    exact h.c1
  · show s'.ck 0 = _
    rw [hc, h.c0]
    rfl
theorem St1.to2 {W T : Int} {b : Nat} {s : Fr} (h : St1 W T b s) : St2 W T b 0 s := ⟨h.nn, h.w0, h.w1, by rw [h.L]; rfl, h.c0, h.c1, h.tm⟩
theorem mem_J {b m : Nat} {x : It} : x ∈ (List.range m).map (itJ b) ↔ ∃ j, j < m ∧ itJ b j = x := by simp
theorem step2 {W T : Int} (hT : 0 < T) {b m : Nat} (hm : m < 16) {s : Fr} (h : St2 W T b m s) : addE s ((m % 2 : Nat) : Int) ((b + m : Nat) : Int) 10 = 0 ∧ St2 W T b (m + 1) (addS s ((m % 2 : Nat) : Int) ((b + m : Nat) : Int) 10) := by
  have ht : m % 2 < 2 := by omega
  have hb := num2 h.nn ht
  have hno : hasB s.L ((b + m : Nat) : Int) = false := by
    cases e : hasB s.L ((b + m : Nat) : Int) with
    | false => rfl
    | true =>
      obtain ⟨x, hx, he⟩ := has_mem.1 e
      rw [h.L] at hx
      obtain ⟨j, hj, rfl⟩ := mem_J.1 hx
      have : ((b + j : Nat) : Int) = ((b + m : Nat) : Int) := he
      omega
  have hlen : (rowOf s.L (m % 2)).length ≤ m := by
    have := List.length_filter_le (fun x : It => x.t == m % 2) s.L
    rw [h.L] at this
    simp only [List.length_map, List.length_range] at this
    rw [h.L]
    exact this
  have e0 : addE s ((m % 2 : Nat) : Int) ((b + m : Nat) : Int) 10 = 0 := by
    unfold addE
    rw [if_neg (by rw [hb]; simp), if_neg (by rw [hno]; decide), Int.toNat_natCast, if_neg (by omega)]
  refine ⟨e0, ?_⟩
  have e1 : addS s ((m % 2 : Nat) : Int) ((b + m : Nat) : Int) 10 = { s with ck := raised s (m % 2), L := s.L ++ [itJ b m] } := by
    unfold addS
    rw [if_pos e0, Int.toNat_natCast]
    rfl
  have hr : rowOf s.L (m % 2) = [] ↔ m ≤ 1 := by
    constructor
    · intro he
      refine Classical.byContradiction fun hc => ?_
      have hx : itJ b (m - 2) ∈ rowOf s.L (m % 2) := by
        rw [mem_row, h.L]
        exact ⟨mem_J.2 ⟨m - 2, by omega, rfl⟩, by show (m - 2) % 2 = m % 2; omega⟩
      rw [he] at hx
      cases hx
    · intro he
      refine List.eq_nil_iff_forall_not_mem.2 fun x hx => ?_
      obtain ⟨h1, h2⟩ := mem_row.1 hx
      rw [h.L] at h1
      obtain ⟨j, hj, rfl⟩ := mem_J.1 h1
      have : j % 2 = m % 2 := h2
      omega
  have hmono := mul_le_T hT (show b - 1 ≤ b by omega)
  have hnn := mul_le_T hT (show 0 ≤ b - 1 by omega)
  rw [show ((0 : Nat) : Int) = 0 from rfl, Int.zero_mul] at hnn
  rw [e1]
  refine ⟨h.nn, h.w0, h.w1, ?_, ?_, ?_, h.tm⟩
  · show s.L ++ [itJ b m] = _
    rw [h.L, List.range_succ, List.map_append]
    rfl
  · show raised s (m % 2) 0 = _
    rw [raised_at]
    split
    · rename_i hc
      rw [← hc.2, h.c0, h.tm]
      omega
    · exact h.c0
  · show raised s (m % 2) 1 = _
    rw [raised_at]
    by_cases hm1 : m ≤ 1
    · by_cases hm0 : m = 0
      · subst hm0
        rw [if_neg (fun x => by have := x.2; omega), h.c1]
        rfl
      · obtain rfl : m = 1 := by omega
        rw [if_pos ⟨hr.2 (by omega), rfl⟩, h.tm]
        have := h.c1
        rw [if_pos (by omega)] at this
        rw [this, if_neg (by omega)]
        omega
    · rw [if_neg (fun x => hm1 (hr.1 x.1)), h.c1, if_neg hm1, if_neg (by omega)]
theorem rows_J (b : Nat) : ∀ n : Nat, rowOf ((List.range (2 * n)).map (itJ b)) 0 = (List.range' 0 n).map (fun m => itJ b (2 * m)) ∧ rowOf ((List.range (2 * n)).map (itJ b)) 1 = (List.range' 0 n).map (fun m => itJ b (2 * m + 1))
  | 0 => ⟨rfl, rfl⟩
  | n + 1 => by
    obtain ⟨h0, h1⟩ := rows_J b n
    have e : (List.range (2 * (n + 1))).map (itJ b) = (List.range (2 * n)).map (itJ b) ++ [itJ b (2 * n), itJ b (2 * n + 1)] := by
      rw [show 2 * (n + 1) = 2 * n + 1 + 1 by omega, List.range_succ, List.range_succ]
      simp
    have t0 : (itJ b (2 * n)).t = 0 := by show 2 * n % 2 = 0; omega
    have t1 : (itJ b (2 * n + 1)).t = 1 := by show (2 * n + 1) % 2 = 1; omega
    rw [e, row_append, row_append, h0, h1, List.range'_1_concat, Nat.zero_add]
    constructor
    · rw [List.map_append]
      congr 1
      simp [rowOf, List.filter_cons, t0, t1]
    · rw [List.map_append]
      congr 1
      simp [rowOf, List.filter_cons, t0, t1]
theorem St2.to3 {W T : Int} {b n : Nat} (hn : 1 ≤ n) {s : Fr} (h : St2 W T b (2 * n) s) : St3 W T b n 0 0 s := by
  obtain ⟨h0, h1⟩ := rows_J b n
  refine ⟨h.nn, h.w0, h.w1, by rw [h.L]; exact h0, by rw [h.L]; exact h1, by rw [Nat.add_zero]; exact h.c0, ?_⟩
  rw [Nat.add_zero, h.c1, if_neg (by omega)]
theorem step3 {W T : Int} (hT : 0 < T) (ht : tick 10 W = T) {K b n p q : Nat} {s : Fr} (hk : FrOk K s) (h : St3 W T b n p q s) (hp : p ≤ n) (hq : q ≤ n) :
    (p < n → b + p ≤ b - 1 + q → nextO s = some (itJ b (2 * p)) ∧ St3 W T b n (p + 1) q (nextS s)) ∧ (q < n → b - 1 + q < b + p → nextO s = some (itJ b (2 * q + 1)) ∧ St3 W T b n p (q + 1) (nextS s)) := by
  have e0 : p < n → rowOf s.L 0 = itJ b (2 * p) :: (List.range' (p + 1) (n - (p + 1))).map fun m => itJ b (2 * m) := fun hlt => by
    rw [h.r0, show n - p = (n - (p + 1)) + 1 by omega, List.range'_succ]
    rfl
  have e1 : q < n → rowOf s.L 1 = itJ b (2 * q + 1) :: (List.range' (q + 1) (n - (q + 1))).map fun m => itJ b (2 * m + 1) := fun hlt => by
    rw [h.r1, show n - q = (n - (q + 1)) + 1 by omega, List.range'_succ]
    rfl
  have t0 : ∀ j, (itJ b (2 * j)).t = 0 := fun j => by show 2 * j % 2 = 0; omega
  have t1 : ∀ j, (itJ b (2 * j + 1)).t = 1 := fun j => by show (2 * j + 1) % 2 = 1; omega
  constructor
  · intro hlt hle
    have hc : ¬ s.ck 1 < s.ck 0 := by
      rw [h.c0, h.c1]
      have := mul_le_T hT hle
      omega
    have hb : bestTo s 2 = some 0 := by
      simp [bestTo, e0 hlt, hc]
    have hO : nextO s = some (itJ b (2 * p)) := by
      unfold nextO
      rw [h.nn, hb]
      simp [e0 hlt]
    have e2 : nextS s = { s with tm := s.ck 0, ck := upd s.ck 0 (s.ck 0 + tick 10 (s.wt 0)), L := outL s.L (itJ b (2 * p)).id } := by
      unfold nextS
      rw [hO]
      dsimp only
      rw [t0]
      rfl
    have hr := next_rows hk hO
    refine ⟨hO, ?_⟩
    refine ⟨by rw [e2]; exact h.nn, by rw [e2]; exact h.w0, by rw [e2]; exact h.w1, ?_, ?_, ?_, ?_⟩
    · rw [hr, t0, if_pos rfl, e0 hlt, List.tail_cons]
    · rw [hr, t0, if_neg (by decide), h.r1]
    · rw [e2]
      have q : upd s.ck 0 (s.ck 0 + tick 10 (s.wt 0)) 0 = ((b + (p + 1) : Nat) : Int) * T := by
        rw [upd_same, h.c0, h.w0, ht, show ((b + (p + 1) : Nat) : Int) = ((b + p : Nat) : Int) + 1 by omega, Int.add_mul, Int.one_mul]
      exact q
    · rw [e2]
      show upd s.ck 0 (s.ck 0 + tick 10 (s.wt 0)) 1 = ((b - 1 + q : Nat) : Int) * T
      rw [upd_other _ _ _ _ (by decide), h.c1]
  · intro hlt hle
    have hc : s.ck 1 < s.ck 0 := by
      rw [h.c0, h.c1]
      exact mul_lt_T hT hle
    have hb : bestTo s 2 = some 1 := by
      by_cases hpn : p < n
      · simp [bestTo, e0 hpn, e1 hlt, hc]
      · have : rowOf s.L 0 = [] := by rw [h.r0, show n - p = 0 by omega]; rfl
        simp [bestTo, this, e1 hlt]
    have hO : nextO s = some (itJ b (2 * q + 1)) := by
      unfold nextO
      rw [h.nn, hb]
      simp [e1 hlt]
    have e2 : nextS s = { s with tm := s.ck 1, ck := upd s.ck 1 (s.ck 1 + tick 10 (s.wt 1)), L := outL s.L (itJ b (2 * q + 1)).id } := by
      unfold nextS
      rw [hO]
      dsimp only
      rw [t1]
      rfl
    have hr := next_rows hk hO
    refine ⟨hO, ?_⟩
    refine ⟨by rw [e2]; exact h.nn, by rw [e2]; exact h.w0, by rw [e2]; exact h.w1, ?_, ?_, ?_, ?_⟩
    · rw [hr, t1, if_neg (by decide), h.r0]
    · rw [hr, t1, if_pos rfl, e1 hlt, List.tail_cons]
    · rw [e2]
      show upd s.ck 1 (s.ck 1 + tick 10 (s.wt 1)) 0 = ((b + p : Nat) : Int) * T
      rw [upd_other _ _ _ _ (by decide), h.c0]
    · rw [e2]
      have q' : upd s.ck 1 (s.ck 1 + tick 10 (s.wt 1)) 1 = ((b - 1 + (q + 1) : Nat) : Int) * T := by
        rw [upd_same, h.c1, h.w1, ht, show ((b - 1 + (q + 1) : Nat) : Int) = ((b - 1 + q : Nat) : Int) + 1 by omega, Int.add_mul, Int.one_mul]
      exact q'
/-- how many of the one, of the other, behind i -/
def pI (b i : Nat) : Nat := if b = 0 then (i + 1) / 2 else i / 2
def qI (b i : Nat) : Nat := if b = 0 then i / 2 else (i + 1) / 2
theorem turn3 {W T : Int} (hT : 0 < T) (ht : tick 10 W = T) {K b n i : Nat} (hi : i < 2 * n) {s : Fr} (hk : FrOk K s) (h : St3 W T b n (pI b i) (qI b i) s) :
    ∃ j, j < 2 * n ∧ nextO s = some (itJ b j) ∧ St3 W T b n (pI b (i + 1)) (qI b (i + 1)) (nextS s) ∧ (pI b (i + 1) : Int) - qI b (i + 1) = (pI b i : Int) - qI b i + (if j % 2 = 0 then 1 else -1) := by
  have hs := step3 hT ht hk h (by unfold pI; split <;> omega) (by unfold qI; split <;> omega)
  unfold pI qI at hs h ⊢
  by_cases hb : b = 0
  · subst hb
    simp only [if_true] at hs h ⊢
    by_cases hi2 : i % 2 = 0
    · obtain ⟨h1, h2⟩ := hs.1 (by omega) (by omega)
      refine ⟨_, by omega, h1, ?_, ?_⟩
      · rw [show (i + 1 + 1) / 2 = (i + 1) / 2 + 1 by omega, show (i + 1) / 2 = i / 2 by omega]
        rw [show (i + 1) / 2 = i / 2 by omega] at h2
        exact h2
      · rw [if_pos (by omega)]
        omega
    · obtain ⟨h1, h2⟩ := hs.2 (by omega) (by omega)
      refine ⟨_, by omega, h1, ?_, ?_⟩
      · rw [show (i + 1 + 1) / 2 = (i + 1) / 2 by omega, show (i + 1) / 2 = i / 2 + 1 by omega]
        rw [show (i + 1) / 2 = i / 2 + 1 by omega] at h2
        exact h2
      · rw [if_neg (by omega)]
        omega
  · simp only [hb, if_false] at hs h ⊢
    by_cases hi2 : i % 2 = 0
    · obtain ⟨h1, h2⟩ := hs.2 (by omega) (by omega)
      refine ⟨_, by omega, h1, ?_, ?_⟩
      · rw [show (i + 1 + 1) / 2 = (i + 1) / 2 + 1 by omega, show (i + 1) / 2 = i / 2 by omega]
        rw [show (i + 1) / 2 = i / 2 by omega] at h2
        exact h2
      · rw [if_neg (by omega)]
        omega
    · obtain ⟨h1, h2⟩ := hs.1 (by omega) (by omega)
      refine ⟨_, by omega, h1, ?_, ?_⟩
      · rw [show (i + 1 + 1) / 2 = (i + 1) / 2 by omega, show (i + 1) / 2 = i / 2 + 1 by omega]
        rw [show (i + 1) / 2 = i / 2 + 1 by omega] at h2
        exact h2
      · rw [if_pos (by omega)]
        omega
theorem diff3 (b i : Nat) : -1 ≤ (pI b i : Int) - qI b i ∧ (pI b i : Int) - qI b i ≤ 1 := by
  unfold pI qI
  split <;> omega
theorem diff_end (b n : Nat) : (pI b (2 * n) : Int) - qI b (2 * n) = 0 := by
  unfold pI qI
  split <;> omega

end Go.Proofs.Ytkjmlbllpnehlaa
