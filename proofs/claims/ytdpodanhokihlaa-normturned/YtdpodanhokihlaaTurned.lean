/- Of the numbers behind Rms: a row with all signs turned, and weights of nought; no program. -/
import Derived.Test.YtdpodanhokihlaaRows
import Derived.Test.YtdpodanhokihlaaSat
import Derived.Test.YtdpodanhokihlaaAdds
import Derived.Test.YtdpodanhokihlaaArith
import Derived.Test.YtdpodanhokihlaaRoot
import Derived.Test.YtdpodanhokihlaaOrder
import Derived.Test.YtdpodanhokihlaaRms
namespace Go.Proofs.Ytdpodanhokihlaa
open Go.ChangeShapes Go.WideShapes Go.ChangeAt Go.RowKit
set_option linter.unusedVariables false
set_option linter.unusedSimpArgs false

theorem clampZ_in (x : Int) (h0 : -2147483648 ≤ x) (h1 : x ≤ 2147483647) : clampZ x = x := by
  unfold clampZ
  rw [if_neg (by omega), if_neg (by omega)]

theorem sq_le (z : List Int) (j n : Nat) (h : j < n) : clampZ (z.getD j 0) * clampZ (z.getD j 0) ≤ sqZ z n := by
  induction n with
  | zero => omega
  | succ n ih =>
    have p := sq_prod (z.getD j 0)
    have q := sq_prod (z.getD n 0)
    have s := sqZ_bounds z n
    show _ ≤ addZ (sqZ z n) (clampZ (z.getD n 0) * clampZ (z.getD n 0))
    by_cases e : j = n
    · subst e
      generalize clampZ (z.getD j 0) * clampZ (z.getD j 0) = P at *
      unfold addZ
      repeat' split
      all_goals omega
    · have := ih (by omega)
      generalize clampZ (z.getD j 0) * clampZ (z.getD j 0) = P at *
      generalize clampZ (z.getD n 0) * clampZ (z.getD n 0) = Q at *
      unfold addZ
      repeat' split
      all_goals omega

theorem shift16_low (q : Int) (h : 0 ≤ q) : q < 65536 * (shiftZ q 16 + 1) := by
  unfold shiftZ
  rw [if_neg (by omega), if_neg (by omega)]
  unfold shN
  show q < 65536 * ((q / 32768 + 1) / 2 + 1)
  omega

theorem mean_pos (z : List Int) (n : Nat) : 1 ≤ meanZ z n := by
  have s := sqZ_bounds z n
  have t := tdiv_bounds (sqZ z n) n s.1
  have u := shift16_bounds ((sqZ z n).tdiv n) t.1 (by omega)
  unfold meanZ
  generalize shiftZ ((sqZ z n).tdiv n) 16 = S at *
  unfold clampZ
  repeat' split
  all_goals omega

theorem mean_low (z : List Int) (j n : Nat) (hj : j < n) (hn : n ≤ 1000) : clampZ (z.getD j 0) * clampZ (z.getD j 0) ≤ 65536000 * meanZ z n ∨ meanZ z n = 2147483647 := by
  have l := sq_le z j n hj
  have s := sqZ_bounds z n
  have t := tdiv_bounds (sqZ z n) n s.1
  have low := shift16_low ((sqZ z n).tdiv n) t.1
  have u := shift16_bounds ((sqZ z n).tdiv n) t.1 (by omega)
  have e : (sqZ z n).tdiv n = sqZ z n / n := Int.tdiv_eq_ediv_of_nonneg s.1
  unfold meanZ
  rw [e] at t low u ⊢
  clear e
  have d : sqZ z n < (sqZ z n / n + 1) * n := by
    have := Int.lt_ediv_add_one_mul_self (sqZ z n) (show (0 : Int) < (n : Int) by omega)
    exact this
  generalize sqZ z n / (n : Int) = q at *
  generalize shiftZ q 16 = S at *
  have m : (q + 1) * (n : Int) ≤ (q + 1) * 1000 := Int.mul_le_mul_of_nonneg_left (by omega) (by omega)
  generalize (q + 1) * (n : Int) = Qn at *
  by_cases c : S + 1 ≤ 2147483647
  · left
    rw [clampZ_in (S + 1) (by omega) c]
    omega
  · right
    unfold clampZ
    rw [if_neg (by omega), if_pos (by omega)]

theorem rsqrt_sq (m : Int) (h0 : 1 ≤ m) (h1 : m ≤ 2147483647) : 0 ≤ rsqrtZ m ∧ rsqrtZ m * rsqrtZ m * m ≤ 281474976710656 := by
  unfold rsqrtZ
  rw [clampZ_in m (by omega) h1, if_neg (by omega)]
  have q := quot_bounds m h0
  have r := rootZ_spec _ q.1 q.2
  refine ⟨r.1, ?_⟩
  have d := Int.ediv_mul_le 281474976710656 (show m ≠ 0 by omega)
  have k := Int.mul_le_mul_of_nonneg_right r.2.1 (show (0 : Int) ≤ m by omega)
  omega

theorem size_bound (z : List Int) (j n : Nat) (hj : j < n) (hn : n ≤ 1000) : (clampZ (z.getD j 0) * rsqrtZ (meanZ z n)).natAbs ≤ 1099511627776 := by
  have c := clampZ_bounds (z.getD j 0)
  have mp := mean_pos z n
  have mb : meanZ z n ≤ 2147483647 := (clampZ_bounds _).2
  have r := rsqrt_sq (meanZ z n) mp mb
  have l := mean_low z j n hj hn
  generalize rsqrtZ (meanZ z n) = R at *
  generalize meanZ z n = m at *
  generalize clampZ (z.getD j 0) = v at *
  rw [Int.natAbs_mul]
  have ev : v * v = ((v.natAbs * v.natAbs : Nat) : Int) := by rw [← Int.natAbs_mul_self]
  have eR : R = (R.natAbs : Int) := by omega
  have va : v.natAbs ≤ 2147483648 := by omega
  generalize v.natAbs = a at *
  rw [ev] at l
  rw [eR] at r
  generalize R.natAbs = b at *
  obtain ⟨k, rfl⟩ : ∃ k : Nat, m = (k : Int) := ⟨m.toNat, by omega⟩
  have r2 : b * b * k ≤ 281474976710656 := by
    refine Int.ofNat_le.1 ?_
    rw [Int.natCast_mul, Int.natCast_mul]
    exact r.2
  clear r ev eR c
  rcases l with l | l
  · have l' : a * a ≤ 65536000 * k := by
      refine Int.ofNat_le.1 ?_
      rw [Int.natCast_mul 65536000]
      exact l
    by_cases g : a * b ≤ 1099511627776
    · exact g
    · exfalso
      have g2 : 1099511627777 * 1099511627777 ≤ (a * b) * (a * b) := Nat.mul_le_mul (by omega) (by omega)
      have e1 : (a * b) * (a * b) = (a * a) * (b * b) := by simp only [Nat.mul_comm, Nat.mul_left_comm]
      have e2 : (a * a) * (b * b) ≤ (65536000 * k) * (b * b) := Nat.mul_le_mul_right _ l'
      have e3 : (65536000 * k) * (b * b) = 65536000 * (b * b * k) := by simp only [Nat.mul_comm, Nat.mul_left_comm, Nat.mul_assoc]
      omega
  · have k' : k = 2147483647 := by omega
    subst k'
    have bb : b ≤ 512 := by
      by_cases g : b ≤ 512
      · exact g
      · exfalso
        have : 513 * 513 ≤ b * b := Nat.mul_le_mul (by omega) (by omega)
        omega
    have := Nat.mul_le_mul va bb
    omega

theorem mul_turned (v r : Int) (hv0 : -2147483647 ≤ v) (hv1 : v ≤ 2147483647) (h : (clampZ v * clampZ r).natAbs ≤ 1099511627776) : mulZ (-v) r = -mulZ v r ∧ -2147483647 ≤ mulZ v r ∧ mulZ v r ≤ 2147483647 := by
  rw [mulZ_sixteen, mulZ_sixteen]
  rw [clampZ_in v (by omega) (by omega)] at h ⊢
  rw [clampZ_in (-v) (by omega) (by omega)]
  rw [Int.neg_mul]
  generalize v * clampZ r = P at *
  have b : ∀ x : Int, -1099511627776 ≤ x ∧ x ≤ 1099511627776 → (if x < 0 then -((-x / 32768 + 1) / 2) else (x / 32768 + 1) / 2) ≤ 33554432 ∧ -33554432 ≤ (if x < 0 then -((-x / 32768 + 1) / 2) else (x / 32768 + 1) / 2) := by
    intro x hx
    split <;> omega
  have b1 := b P (by omega)
  have b2 := b (-P) (by omega)
  rw [clampZ_in _ (by omega) (by omega), clampZ_in _ (by omega) (by omega)]
  refine ⟨?_, by omega, by omega⟩
  clear b b1 b2
  by_cases p : P < 0
  · rw [if_pos p, if_neg (by omega)]; omega
  · rw [if_neg p]
    by_cases z : P = 0
    · subst z; decide
    · rw [if_pos (by omega)]; omega

theorem weigh_one (y : Int) (h0 : -2147483647 ≤ y) (h1 : y ≤ 2147483647) : weighZ y 64 = y := by
  have e : shiftZ (y * 64) 6 = y := by
    unfold shiftZ shN
    by_cases n : y * 64 < 0
    · rw [if_neg (by omega), if_pos n]
      show -((-(y * 64) / 32 + 1) / 2) = y
      omega
    · rw [if_neg (by omega), if_neg n]
      show (y * 64 / 32 + 1) / 2 = y
      omega
  unfold weighZ
  rw [e, clampZ_in y (by omega) h1]

theorem weigh_nought (y : Int) : weighZ y 0 = 0 := by
  unfold weighZ
  rw [Int.mul_zero]
  decide

def halfF (z : List Int) (j : Nat) : Int := (z.getD j 0).tmod 2147483648
def backF (z : List Int) (j : Nat) : Int := -(z.getD j 0).tmod 2147483648

theorem half_bounds (x : Int) : -2147483648 < x.tmod 2147483648 ∧ x.tmod 2147483648 < 2147483648 := by
  rw [Int.tmod_eq_emod]
  split <;> omega

theorem row_at (F : Nat → Int) (n j : Nat) (h : j < n) : ((List.range n).map F).getD j 0 = F j := by
  simp [List.getD, h]

theorem sq_turned (z : List Int) (n k : Nat) (hk : k ≤ n) : sqZ ((List.range n).map (backF z)) k = sqZ ((List.range n).map (halfF z)) k := by
  induction k with
  | zero => rfl
  | succ k ih =>
    show addZ (sqZ _ k) (clampZ (((List.range n).map (backF z)).getD k 0) * clampZ (((List.range n).map (backF z)).getD k 0)) = addZ (sqZ _ k) (clampZ (((List.range n).map (halfF z)).getD k 0) * clampZ (((List.range n).map (halfF z)).getD k 0))
    rw [ih (by omega), row_at _ _ _ (by omega), row_at _ _ _ (by omega)]
    have b := half_bounds (z.getD k 0)
    unfold backF halfF
    generalize (z.getD k 0).tmod 2147483648 = v at *
    rw [clampZ_in v (by omega) (by omega), clampZ_in (-v) (by omega) (by omega), Int.neg_mul_neg]

theorem mean_turned (z : List Int) (n : Nat) : meanZ ((List.range n).map (backF z)) n = meanZ ((List.range n).map (halfF z)) n := by
  unfold meanZ
  rw [sq_turned z n n (Nat.le_refl _)]

theorem rms_turned (z : List Int) (n j : Nat) (hj : j < n) (hn : n ≤ 1000) :
    (rmsZ ((List.range n).map (halfF z)) ((List.range n).map fun _ => 64) n).getD j 0 = -(rmsZ ((List.range n).map (backF z)) ((List.range n).map fun _ => 64) n).getD j 0 ∧
      -2147483647 ≤ (rmsZ ((List.range n).map (backF z)) ((List.range n).map fun _ => 64) n).getD j 0 ∧ (rmsZ ((List.range n).map (backF z)) ((List.range n).map fun _ => 64) n).getD j 0 ≤ 2147483647 := by
  have b := half_bounds (z.getD j 0)
  have s := size_bound ((List.range n).map (halfF z)) j n hj hn
  have rb := rsqrtZ_bounds (meanZ ((List.range n).map (halfF z)) n)
  unfold rmsZ
  rw [row_at _ _ _ hj, row_at _ _ _ hj, mean_turned]
  unfold rmsF
  rw [row_at _ _ _ hj] at s
  rw [row_at _ _ _ hj, row_at _ _ _ hj, row_at _ _ _ hj]
  generalize rsqrtZ (meanZ ((List.range n).map (halfF z)) n) = r at *
  unfold halfF at s ⊢
  unfold backF
  generalize (z.getD j 0).tmod 2147483648 = v at *
  have t := mul_turned v r (by omega) (by omega) (by rw [clampZ_in r (by omega) (by omega)]; exact s)
  rw [t.1]
  rw [weigh_one _ t.2.1 t.2.2, weigh_one _ (by omega) (by omega)]
  omega

theorem rms_nought (x : List Int) (n j : Nat) (hj : j < n) : (rmsZ x ((List.range n).map fun _ => 0) n).getD j 0 = 0 := by
  unfold rmsZ
  rw [row_at _ _ _ hj]
  unfold rmsF
  rw [row_at _ _ _ hj]
  exact weigh_nought _

end Go.Proofs.Ytdpodanhokihlaa
