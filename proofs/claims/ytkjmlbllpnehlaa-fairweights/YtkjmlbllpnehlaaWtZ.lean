/- By weight, as plain values. -/
import Derived.Test.YtkjmlbllpnehlaaRows
import Derived.Test.YtkjmlbllpnehlaaView
import Derived.Test.YtkjmlbllpnehlaaOwn
import Derived.Test.YtkjmlbllpnehlaaBase
import Derived.Test.YtkjmlbllpnehlaaFkZ
import Derived.Test.YtkjmlbllpnehlaaFkNew
import Derived.Test.YtkjmlbllpnehlaaMapI
import Derived.Test.YtkjmlbllpnehlaaPriceAt
import Derived.WalkKit
import Derived.ProofKit
import Derived.OpenShut
import Derived.Below
import Derived.WalkLawsBesides
import Derived.Deep.QuietTactic
import Derived.BigQuiet
namespace Go.Proofs.Ytkjmlbllpnehlaa
set_option maxRecDepth 20000
open Go.ChangeShapes Go.WideShapes Go.ChangeAt Go.RowKit
set_option linter.unusedVariables false
set_option linter.unusedSimpArgs false

/-- the first k ids, two of each tenant -/
def fH (k : Nat) : Int → Option Int := fun z => if 0 ≤ z ∧ z < (k : Int) then some (z / 2) else none
theorem fH_zero : fH 0 = fun _ => none := by
  funext z
  unfold fH
  rw [if_neg (by omega)]
theorem fH_succ (k : Nat) : updI (fH k) (k : Int) ((k / 2 : Nat) : Int) = fH (k + 1) := by
  funext z
  unfold updI fH
  by_cases e : z = (k : Int)
  · rw [if_pos e, if_pos (by omega), e]
    congr 1
  · rw [if_neg e]
    by_cases h : 0 ≤ z ∧ z < (k : Int)
    · rw [if_pos h, if_pos (by omega)]
    · rw [if_neg h, if_neg (by omega)]
theorem fH_at (k j : Nat) (h : j < k) : fH k (j : Int) = some ((j / 2 : Nat) : Int) := by
  unfold fH
  rw [if_pos (by omega)]
  congr 1
/-- m things are laid in, two of each tenant -/
structure Wl (zs : List Int) (T : Int) (m : Nat) (s : Fr) : Prop where
  nn : s.n = zs.length
  wt : ∀ i, s.wt i = zs.getD i 0
  ck : ∀ i, s.ck i = 0
  tm : s.tm = 0
  cnt : ∀ t, (rowOf s.L t).length = min 2 (m - 2 * t)
  it : ∀ x ∈ s.L, ∃ j, j < m ∧ x.id = (j : Int) ∧ x.t = j / 2 ∧ x.co ≤ T
theorem Wl.start (zs : List Int) : Wl zs 1 0 (newF zs) := ⟨rfl, fun _ => rfl, fun _ => rfl, rfl, fun t => by show (rowOf [] t).length = _; simp [rowOf], fun x hx => by cases hx⟩
theorem Wl.step {zs : List Int} {T : Int} {m : Nat} {s : Fr} (h : Wl zs T m s) (hm : m / 2 < zs.length) {c : Int} (c1 : 1 ≤ c) (c2 : c ≤ 10000) :
    addE s ((m / 2 : Nat) : Int) (m : Int) c = 0 ∧ Wl zs (max T c) (m + 1) (addS s ((m / 2 : Nat) : Int) (m : Int) c) := by
  have hb : numB s ((m / 2 : Nat) : Int) = true := by
    unfold numB
    rw [h.nn]
    simp only [decide_eq_true_eq]
    omega
  have hno : hasB s.L (m : Int) = false := by
    cases e : hasB s.L (m : Int) with
    | false => rfl
    | true =>
      obtain ⟨x, hx, he⟩ := has_mem.1 e
      obtain ⟨j, hj, h1, -⟩ := h.it x hx
      omega
  have hc := h.cnt (m / 2)
  have e0 : addE s ((m / 2 : Nat) : Int) (m : Int) c = 0 := by
    unfold addE
    rw [if_neg (by rw [hb]; simp; omega), if_neg (by rw [hno]; decide), Int.toNat_natCast, if_neg (by omega)]
  refine ⟨e0, ?_⟩
  have e1 : addS s ((m / 2 : Nat) : Int) (m : Int) c = { s with ck := raised s (m / 2), L := s.L ++ [(⟨m / 2, (m : Int), c⟩ : It)] } := by
    unfold addS
    rw [if_pos e0, Int.toNat_natCast]
  rw [e1]
  refine ⟨h.nn, h.wt, fun i => ?_, h.tm, fun t => ?_, fun x hx => ?_⟩
  · show raised s (m / 2) i = 0
    rw [raised_at, h.ck, h.ck, h.tm]
    split <;> rfl
  · show (rowOf (s.L ++ [(⟨m / 2, (m : Int), c⟩ : It)]) t).length = _
    rw [row_append, row_one, List.length_append, h.cnt]
    dsimp only
    split
    · rename_i e
      rw [List.length_singleton]
      omega
    · rename_i e
      rw [List.length_nil]
      omega
  · rcases List.mem_append.1 hx with hx | hx
    · obtain ⟨j, h1, h2, h3, h4⟩ := h.it x hx
      exact ⟨j, by omega, h2, h3, by omega⟩
    · obtain rfl := List.mem_singleton.1 hx
      exact ⟨m, by omega, rfl, rfl, by dsimp only; omega⟩
/-- as it stands after i turns -/
structure Wz (zs : List Int) (T : Int) (fm : Int → Option Int) (sv : List Int) (i m : Nat) (s : Fr) : Prop where
  nn : s.n = zs.length
  wt : ∀ i, s.wt i = zs.getD i 0
  two : ∀ t, t < zs.length → (rowOf s.L t).length = 2
  it : ∀ x ∈ s.L, fm x.id = some (x.t : Int) ∧ x.co ≤ T ∧ x.id < (m : Int)
  len : sv.length = zs.length
  sv : ∀ t, t < zs.length → 0 ≤ sv.getD t 0 ∧ sv.getD t 0 ≤ (i : Int) * 10000 ∧ s.ck t = sv.getD t 0 * (720720 / zs.getD t 0)
  fair : ∀ a b, a < zs.length → b < zs.length → s.ck a ≤ s.ck b + T * (720720 / zs.getD a 0)
theorem weight_ok {zs : List Int} (h : okW zs = true) {i : Nat} (hi : i < zs.length) : 1 ≤ zs.getD i 0 ∧ zs.getD i 0 ≤ 16 := by
  simp only [okW, Bool.and_eq_true, decide_eq_true_eq, Bool.not_eq_true', List.any_eq_false] at h
  have := h.2 zs[i] (List.getElem_mem hi)
  rw [show zs.getD i 0 = zs[i] by simp [List.getD, hi]]
  unfold noW at this
  simp only [Bool.or_eq_true, decide_eq_true_eq] at this
  omega
theorem unit_ok {zs : List Int} (h : okW zs = true) {i : Nat} (hi : i < zs.length) : 0 ≤ 720720 / zs.getD i 0 ∧ zs.getD i 0 * (720720 / zs.getD i 0) = 720720 := by
  obtain ⟨h1, h2⟩ := weight_ok h hi
  obtain ⟨-, -, -, q0, -, -, q⟩ := tick_ok (co := 1) (by omega) (by omega) h1 h2
  exact ⟨q0, q⟩
theorem zero_getD (n t : Nat) : (List.replicate n (0 : Int)).getD t 0 = 0 := by
  simp only [List.getD, List.getElem?_replicate]
  split <;> rfl
theorem Wl.toz {zs : List Int} (ho : okW zs = true) {T : Int} (hT : 1 ≤ T) {s : Fr} (h : Wl zs T (2 * zs.length) s) : Wz zs T (fH (2 * zs.length)) (List.replicate zs.length 0) 0 (2 * zs.length) s := by
  refine ⟨h.nn, h.wt, fun t ht => ?_, fun x hx => ?_, List.length_replicate, fun t ht => ?_, fun a b ha hb => ?_⟩
  · rw [h.cnt]
    omega
  · obtain ⟨j, h1, h2, h3, h4⟩ := h.it x hx
    rw [h2, fH_at _ _ h1, h3]
    exact ⟨rfl, h4, by omega⟩
  · rw [zero_getD, h.ck]
    refine ⟨by omega, by omega, by rw [Int.zero_mul]⟩
  · rw [h.ck, h.ck]
    have := Int.mul_nonneg (show 0 ≤ T by omega) (unit_ok ho ha).1
    omega
theorem Wz.step {zs : List Int} (ho : okW zs = true) {T : Int} (hT : 1 ≤ T) {fm : Int → Option Int} {sv : List Int} {i m K : Nat} {s : Fr} (hk : FrOk K s) (h : Wz zs T fm sv i m s) {c : Int} (c1 : 1 ≤ c) (c2 : c ≤ 10000) :
    ∃ X : It, nextO s = some X ∧ X.t < zs.length ∧ 1 ≤ X.co ∧ X.co ≤ 10000 ∧ (Lit.int .i64 X.id).wf = true ∧ fm X.id = some (X.t : Int) ∧ addE (nextS s) (X.t : Int) (m : Int) c = 0 ∧
      Wz zs (max T c) (updI fm (m : Int) (X.t : Int)) (sv.set X.t (sv.getD X.t 0 + X.co)) (i + 1) (m + 1) (addS (nextS s) (X.t : Int) (m : Int) c) := by
  cases hX : nextO s with
  | none =>
    have h1 := (next_empty hk).1 hX
    have h2 := h.two 0 (by have := hk.n1; rw [h.nn] at this; omega)
    rw [h1] at h2
    cases h2
  | some X =>
    obtain ⟨x1, x2, x3⟩ := nextO_mem hX
    obtain ⟨y1, y2, y3, y4⟩ := hk.it X x1
    obtain ⟨z1, z2, z3⟩ := h.it X x1
    have hr := next_rows hk hX
    have hn := h.nn
    rw [hn] at y1
    have e2 : nextS s = { s with tm := s.ck X.t, ck := upd s.ck X.t (s.ck X.t + tick X.co (s.wt X.t)), L := outL s.L X.id } := by
      unfold nextS
      rw [hX]
    have hL : (nextS s).L = outL s.L X.id := by rw [e2]
    have hnn : (nextS s).n = zs.length := by rw [e2]; exact hn
    have hw : (nextS s).wt = s.wt := by rw [e2]
    have hck : (nextS s).ck = upd s.ck X.t (s.ck X.t + tick X.co (s.wt X.t)) := by rw [e2]
    have hrl : ∀ t, t < zs.length → (rowOf (nextS s).L t).length = if t = X.t then 1 else 2 := fun t ht => by
      rw [hr t]
      split
      · rename_i e
        rw [List.length_tail, h.two _ ht]
      · exact h.two t ht
    have hb : numB (nextS s) (X.t : Int) = true := by
      unfold numB
      rw [hnn]
      simp only [decide_eq_true_eq]
      omega
    have hno : hasB (nextS s).L (m : Int) = false := by
      cases e : hasB (nextS s).L (m : Int) with
      | false => rfl
      | true =>
        obtain ⟨x, hx, he⟩ := has_mem.1 e
        rw [hL] at hx
        have := (h.it x (out_mem.1 hx).1).2.2
        omega
    have hl1 := hrl X.t y1
    rw [if_pos rfl] at hl1
    have e0 : addE (nextS s) (X.t : Int) (m : Int) c = 0 := by
      unfold addE
      rw [if_neg (by rw [hb]; simp; omega), if_neg (by rw [hno]; decide), Int.toNat_natCast, if_neg (by omega)]
    have hra : raised (nextS s) X.t = (nextS s).ck := by
      unfold raised
      rw [if_neg (fun e => by rw [e] at hl1; cases hl1)]
    have e1 : addS (nextS s) (X.t : Int) (m : Int) c = { nextS s with ck := (nextS s).ck, L := (nextS s).L ++ [(⟨X.t, (m : Int), c⟩ : It)] } := by
      unfold addS
      rw [if_pos e0, Int.toNat_natCast, hra]
    have hbest := best_least x2
    obtain ⟨q0, q1⟩ := unit_ok ho y1
    have hlt : X.t < sv.length := by rw [h.len]; exact y1
    have htk : tick X.co (s.wt X.t) = X.co * (720720 / zs.getD X.t 0) := by unfold tick; rw [h.wt]
    have htk0 : 0 ≤ X.co * (720720 / zs.getD X.t 0) := Int.mul_nonneg (by omega) q0
    have hleX : ∀ j, j < zs.length → s.ck X.t ≤ s.ck j := fun j hj => hbest j (by rw [hn]; exact hj) (fun e => by have := h.two j hj; rw [e] at this; cases this)
    refine ⟨X, rfl, y1, y2, y3, y4, z1, e0, ?_⟩
    rw [e1]
    refine ⟨hnn, fun j => by show (nextS s).wt j = _; rw [hw]; exact h.wt j, fun t ht => ?_, fun x hx => ?_, by rw [List.length_set]; exact h.len, fun t ht => ?_, fun a b ha hb' => ?_⟩
    · show (rowOf ((nextS s).L ++ [(⟨X.t, (m : Int), c⟩ : It)]) t).length = 2
      rw [row_append, row_one, List.length_append, hrl t ht]
      dsimp only
      by_cases e : t = X.t
      · rw [if_pos e, if_pos e.symm]
        rfl
      · rw [if_neg e, if_neg (fun x => e x.symm)]
        rfl
    · rcases List.mem_append.1 hx with hx | hx
      · rw [hL] at hx
        obtain ⟨u1, u2, u3⟩ := h.it x (out_mem.1 hx).1
        refine ⟨?_, by omega, by omega⟩
        unfold updI
        rw [if_neg (by omega)]
        exact u1
      · obtain rfl := List.mem_singleton.1 hx
        refine ⟨?_, by dsimp only; omega, by dsimp only; omega⟩
        unfold updI
        rw [if_pos rfl]
    · obtain ⟨v1, v2, v3⟩ := h.sv t ht
      rw [set_getD _ _ _ hlt]
      have hck' : ∀ z, (nextS s).ck t = z → ({ nextS s with ck := (nextS s).ck, L := (nextS s).L ++ [(⟨X.t, (m : Int), c⟩ : It)] } : Fr).ck t = z := fun z h => h
      by_cases e : t = X.t
      · rw [if_pos e]
        rw [e] at v1 v2 v3 ⊢
        refine ⟨by omega, by omega, ?_⟩
        show (nextS s).ck X.t = _
        rw [hck, upd_same, htk, v3, Int.add_mul]
      · rw [if_neg e]
        refine ⟨v1, by omega, ?_⟩
        show (nextS s).ck t = _
        rw [hck, upd_other _ _ _ _ e]
        exact v3
    · show (nextS s).ck a ≤ (nextS s).ck b + max T c * (720720 / zs.getD a 0)
      obtain ⟨qa, -⟩ := unit_ok ho ha
      have hf := h.fair a b ha hb'
      have m1 := Int.mul_le_mul_of_nonneg_right (show T ≤ max T c by omega) qa
      have m2 := Int.mul_le_mul_of_nonneg_right (show X.co ≤ max T c by omega) q0
      have m0 := Int.mul_nonneg (show 0 ≤ max T c by omega) qa
      rw [hck]
      by_cases ea : a = X.t
      · by_cases eb : b = X.t
        · rw [ea, eb]
          rw [ea] at m0
          omega
        · rw [upd_other _ _ _ _ eb, ea, upd_same, htk]
          have := hleX b hb'
          omega
      · rw [upd_other _ _ _ _ ea]
        by_cases eb : b = X.t
        · rw [eb, upd_same, htk]
          rw [eb] at hf
          omega
        · rw [upd_other _ _ _ _ eb]
          omega
/-- what is asked of any two -/
theorem Wz.law {zs : List Int} (ho : okW zs = true) {T : Int} (hT : 1 ≤ T) {fm : Int → Option Int} {sv : List Int} {i m : Nat} {s : Fr} (h : Wz zs T fm sv i m s) {a b : Nat} (ha : a < zs.length) (hb : b < zs.length) {d : Int} (d0 : 0 ≤ d) (d1 : d ≤ zs.getD a 0) :
    (sv.getD a 0 * zs.getD b 0 - sv.getD b 0 * zs.getD a 0) * d ≤ 2 * T * zs.getD a 0 * zs.getD b 0 := by
  obtain ⟨-, -, a3⟩ := h.sv a ha
  obtain ⟨-, -, b3⟩ := h.sv b hb
  have hf := h.fair a b ha hb
  obtain ⟨qa0, qa⟩ := unit_ok ho ha
  obtain ⟨qb0, qb⟩ := unit_ok ho hb
  obtain ⟨wa1, wa2⟩ := weight_ok ho ha
  obtain ⟨wb1, wb2⟩ := weight_ok ho hb
  rw [a3, b3] at hf
  generalize sv.getD a 0 = x at *
  generalize sv.getD b 0 = y at *
  generalize zs.getD a 0 = A at *
  generalize zs.getD b 0 = B at *
  generalize 720720 / A = p at *
  generalize 720720 / B = q at *
  have hAB : 0 ≤ A * B := Int.mul_nonneg (by omega) (by omega)
  have h1 := Int.mul_le_mul_of_nonneg_right hf hAB
  have e1 : x * p * (A * B) = x * B * 720720 := by rw [← qa]; ac_rfl
  have e2 : (y * q + T * p) * (A * B) = y * A * 720720 + T * B * 720720 := by
    rw [Int.add_mul]
    congr 1
    · rw [← qb]; ac_rfl
    · rw [← qa]; ac_rfl
  rw [e1, e2] at h1
  have h2 : x * B - y * A ≤ T * B := by omega
  have h3 := Int.mul_le_mul_of_nonneg_right h2 d0
  have hTB : 0 ≤ T * B := Int.mul_nonneg (by omega) (by omega)
  have h4 := Int.mul_le_mul_of_nonneg_left d1 hTB
  have e3 : 2 * T * A * B = 2 * (T * B * A) := by ac_rfl
  have h5 : 0 ≤ T * B * A := Int.mul_nonneg hTB (by omega)
  rw [e3]
  omega
theorem small_mul {x w : Int} {M : Int} (x0 : 0 ≤ x) (x1 : x ≤ M) (w0 : 1 ≤ w) (w1 : w ≤ 16) : 0 ≤ x * w ∧ x * w ≤ M * 16 := by
  have h1 := Int.mul_nonneg x0 (show 0 ≤ w by omega)
  have h2 := Int.mul_le_mul_of_nonneg_right x1 (show 0 ≤ w by omega)
  have h3 := Int.mul_le_mul_of_nonneg_left w1 (show 0 ≤ M by omega)
  omega

end Go.Proofs.Ytkjmlbllpnehlaa
