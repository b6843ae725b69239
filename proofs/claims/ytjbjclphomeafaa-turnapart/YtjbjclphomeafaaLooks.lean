/- The examples that the statements ask for first: they come out as they should; what products with one, with nought and with minus one are; what places more, and the place nought, make of a row. -/
import Derived.Test.YtjbjclphomeafaaRows
import Derived.Test.YtjbjclphomeafaaSat
import Derived.Test.YtjbjclphomeafaaView
import Derived.Test.YtjbjclphomeafaaOwn
import Derived.Test.YtjbjclphomeafaaSame
import Derived.Test.YtjbjclphomeafaaWorks
import Derived.Test.YtjbjclphomeafaaTabs
import Derived.Test.YtjbjclphomeafaaPair
import Derived.Test.YtjbjclphomeafaaTurn
import Derived.Test.YtjbjclphomeafaaTurns
import Derived.Test.YtjbjclphomeafaaHeads
import Derived.WalkKit
import Derived.ProofKit
import Derived.OpenShut
import Derived.Below
import Derived.WalkLawsBesides
namespace Go.Proofs.Ytjbjclphomeafaa
open Go.ChangeShapes Go.WideShapes Go.ChangeAt Go.RowKit
set_option linter.unusedVariables false

theorem looks_k1 : ∀ W p q, Reads .i64 W p 2 [65536, 0] → Calls Try.prog 8 #[.slice p 2 q, .int .i64 4] W fun e w' => (∃ a c, e = .returned (.tuple #[.slice a 2 c, .int .i64 0]) ∧ Reads .i64 w' a 2 [0, 65536]) ∧ Below W.heap.size W w' := by
  intro W p q h
  have := turn_fine p 2 q _ 4 W h (by decide) (by decide) (by decide)
  rw [show turnZ [65536, 0] 4 2 = [0, 65536] by decide +kernel] at this
  exact this.mono fun e w' ⟨⟨a, c, he, hr, _⟩, hw⟩ => ⟨⟨a, c, he, hr⟩, hw⟩

theorem looks_k2 : ∀ W x, Reads .i64 W (some x) 4 [65536, 0, 65536, 0] → Calls Try.prog 11 #[.slice (some x) 4 4, .int .i64 1, .int .i64 4] W fun e w' => (∃ a c, e = .returned (.tuple #[.slice a 4 c, .int .i64 0]) ∧ Reads .i64 w' a 4 [0, 65536, -65536, 0]) ∧ Below W.heap.size W w' := by
  intro W x h
  have := heads_ok x 4 4 1 _ 4 W h (by decide) (by decide) (by decide) (by decide) (by decide) (by decide)
  rw [show headsL [65536, 0, 65536, 0] 4 (4 / 1) 1 = [0, 65536, -65536, 0] by decide +kernel] at this
  exact this.mono fun e w' ⟨⟨a, c, he, hr, _⟩, hw⟩ => ⟨⟨a, c, he, hr⟩, hw⟩

theorem looks_k3 : ∀ W p q, Calls Try.prog 8 #[.slice p 1 q, .int .i64 0] W fun e w' => e = .returned (.tuple #[.slice none 0 0, .int .i64 21]) ∧ Below W.heap.size W w' :=
  fun W p q => (turn_odd p 1 q 0 W (by decide)).mono fun e w' ⟨he, hw⟩ => ⟨he, hw ▸ Below.refl _ _⟩

set_option maxHeartbeats 1000000 in
theorem works_call (w : World) : Calls Try.prog 13 #[] w fun e w' => e = .returned (.bool true) ∧ Below w.heap.size w w' := by
  have k1 := looks_k1
  have k2 := looks_k2
  have k3 := looks_k3
  have hb := Below.refl w.heap.size w
  go_enter Try.func13, Try.ntmps13
  go_wp2_with (first
    | (go_at_call 8; refine (k1 _ _ _ (lit2 .i64 _ 2 _ (by simp) 65536 0 (by decide) (by decide))).mono ?_; rintro e W1 ⟨⟨p1, q1, rfl, r1⟩, hb1⟩; replace hb1 := below_then (below_new hb _) hb1; clear k1)
    | (go_at_call 11; refine (k2 _ _ (lit4 .i64 _ 2 _ (by simp) 65536 0 65536 0 (by decide) (by decide) (by decide) (by decide))).mono ?_; rintro e W2 ⟨⟨p2, q2, rfl, r2⟩, hb2⟩; replace r1 := r1.below (below_then (below_new (Below.refl _ _) _) hb2); replace hb2 := below_then (below_new hb1 _) hb2; clear k2)
    | (go_at_call 8; refine (k3 _ _ _).mono ?_; rintro e W3 ⟨rfl, hb3⟩; replace r1 := r1.below (below_then (below_new (Below.refl _ _) _) hb3); replace r2 := r2.below (below_then (below_new (Below.refl _ _) _) hb3); replace hb3 := below_then (below_new hb2 _) hb3; clear k3)
    | (go_at_call 10; refine (same_call _ _ _ [0, 65536] _ _ _ _ (r1.below (below_new (Below.refl _ _) _)) (lit2 .i64 _ 2 _ (by simp) 0 65536 (by decide) (by decide))).mono ?_; rintro e W5 ⟨rfl, hq⟩; have hb5 := below_drew (below_new hb3 _) hq; replace r2 := r2.below (below_drew (below_new (Below.refl _ _) _) hq); clear hq r1)
    | (go_at_call 10; refine (same_call _ _ _ [0, 65536, -65536, 0] _ _ _ _ (r2.below (below_new (Below.refl _ _) _)) (lit4 .i64 _ 2 _ (by simp) 0 65536 (-65536) 0 (by decide) (by decide) (by decide) (by decide))).mono ?_; rintro e W6 ⟨rfl, hq⟩; have hb6 := below_drew (below_new hb5 _) hq; clear hq r2))
  go_ret
  exact ⟨rfl, by assumption⟩

theorem wrap64_id (x : Int) (h0 : -9223372036854775808 ≤ x) (h1 : x ≤ 9223372036854775807) : wrap64 x = x := by
  rw [wrap64_eq]; omega

theorem shift_one (c : Int) : shiftZ (c * 65536) 16 = c := by
  unfold shiftZ shN
  rw [if_neg (by decide)]
  have e : (2 : Int) ^ ((min (16 : Int) 62).toNat - 1) = 32768 := by decide
  rw [e]
  split <;> omega

theorem mulZ_one (x : Int) : mulZ x 65536 = clampZ x := by
  have b := clampZ_bounds x
  have e : clampZ 65536 = 65536 := by decide
  unfold mulZ
  rw [e, wrap64_id _ (by omega) (by omega), shift_one, clampZ_id _ b.1 b.2]

theorem mulZ_minus (x : Int) : mulZ x (-65536) = clampZ (-clampZ x) := by
  have b := clampZ_bounds x
  have e : clampZ (-65536) = -65536 := by decide
  unfold mulZ
  rw [e, wrap64_id _ (by omega) (by omega), show clampZ x * -65536 = -clampZ x * 65536 by omega, shift_one]

theorem mulZ_nought (x : Int) : mulZ x 0 = 0 := by
  unfold mulZ
  rw [show clampZ 0 = 0 by decide, Int.mul_zero]
  decide +kernel

/-- whole turns change nothing -/
theorem placeZ_round (a b m : Int) (h : a = b + 16 * m) : placeZ a = placeZ b := by unfold placeZ; omega
theorem cosZ_round (a b m : Int) (h : a = b + 16 * m) : cosZ a = cosZ b := by unfold cosZ; rw [placeZ_round a b m h]
theorem sinZ_round (a b m : Int) (h : a = b + 16 * m) : sinZ a = sinZ b := by unfold sinZ; rw [placeZ_round a b m h]

theorem turnF_round (xs : List Int) (p t : Int) (j : Nat) : turnF xs (p + 16 * t) j = turnF xs p j := by
  have e : (p + 16 * t) * ((j / 2 : Nat) + 1) = p * ((j / 2 : Nat) + 1) + 16 * (t * ((j / 2 : Nat) + 1)) := by
    rw [Int.add_mul, Int.mul_assoc]
  unfold turnF turnA turnB
  rw [cosZ_round _ _ _ e, sinZ_round _ _ _ e]

theorem turnZ_round (xs : List Int) (p t : Int) (n : Nat) : turnZ xs (p + 16 * t) n = turnZ xs p n := by
  unfold turnZ
  exact List.map_congr_left fun j _ => turnF_round xs p t j

theorem turnF_nought (xs : List Int) (j : Nat) : turnF xs 0 j = clampZ (xs.getD j 0) := by
  unfold turnF turnA turnB
  rw [Int.zero_mul, show cosZ 0 = 65536 by decide, show sinZ 0 = 0 by decide, mulZ_nought, mulZ_nought, mulZ_one, mulZ_one, Int.sub_zero, Int.zero_add]
  have b := clampZ_bounds (xs.getD (2 * (j / 2)) 0)
  have c := clampZ_bounds (xs.getD (2 * (j / 2) + 1) 0)
  split
  · rw [clampZ_id _ b.1 b.2, show 2 * (j / 2) = j by omega]
  · rw [clampZ_id _ c.1 c.2, show 2 * (j / 2) + 1 = j by omega]

/-- a quarter, and a half -/
theorem quarter (X Y U : Int) (hx : -2147483647 ≤ X ∧ X ≤ 2147483647) (hy : -2147483647 ≤ Y ∧ Y ≤ 2147483647) : turnZ [X, Y] (4 + 16 * U) 2 = [-Y, X] := by
  rw [turnZ_round]
  show [turnF [X, Y] 4 (2 * 0), turnF [X, Y] 4 (2 * 0 + 1)] = _
  rw [turnF_even, turnF_odd]
  show [turnA X Y (4 * ((0 : Nat) + 1)), turnB X Y (4 * ((0 : Nat) + 1))] = _
  unfold turnA turnB
  rw [show cosZ (4 * ((0 : Nat) + 1)) = 0 by decide, show sinZ (4 * ((0 : Nat) + 1)) = 65536 by decide, mulZ_nought, mulZ_nought, mulZ_one, mulZ_one, clampZ_id X (by omega) (by omega), clampZ_id Y (by omega) (by omega), clampZ_id _ (by omega) (by omega), clampZ_id _ (by omega) (by omega)]
  simp

theorem half (X Y U : Int) (hx : -2147483647 ≤ X ∧ X ≤ 2147483647) (hy : -2147483647 ≤ Y ∧ Y ≤ 2147483647) : turnZ [X, Y] (8 + 16 * U) 2 = [-X, -Y] := by
  rw [turnZ_round]
  show [turnF [X, Y] 8 (2 * 0), turnF [X, Y] 8 (2 * 0 + 1)] = _
  rw [turnF_even, turnF_odd]
  show [turnA X Y (8 * ((0 : Nat) + 1)), turnB X Y (8 * ((0 : Nat) + 1))] = _
  unfold turnA turnB
  rw [show cosZ (8 * ((0 : Nat) + 1)) = -65536 by decide, show sinZ (8 * ((0 : Nat) + 1)) = 0 by decide, mulZ_nought, mulZ_nought, mulZ_minus, mulZ_minus, clampZ_id X (by omega) (by omega), clampZ_id Y (by omega) (by omega), clampZ_id (-X) (by omega) (by omega), clampZ_id (-Y) (by omega) (by omega), clampZ_id _ (by omega) (by omega), clampZ_id _ (by omega) (by omega)]
  simp

end Go.Proofs.Ytjbjclphomeafaa
