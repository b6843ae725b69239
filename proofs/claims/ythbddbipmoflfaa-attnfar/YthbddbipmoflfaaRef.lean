/- What the document's answers of layer 3 give back: contracts of the calls. -/
import Derived.Test.YthbddbipmoflfaaRows
import Derived.Test.YthbddbipmoflfaaSat
import Derived.Test.YthbddbipmoflfaaSatRef
import Derived.Test.YthbddbipmoflfaaTabs
import Derived.Test.YthbddbipmoflfaaArith
import Derived.Test.YthbddbipmoflfaaExp
import Derived.Test.YthbddbipmoflfaaRoot
import Derived.WalkKit
import Derived.ProofKit
import Derived.OpenShut
import Derived.WalkLawsBesides
import Derived.Deep.QuietTactic
import Derived.BigQuiet
namespace Go.Proofs.Ythbddbipmoflfaa
open Go.ChangeShapes Go.WideShapes Go.ChangeAt Go.RowKit
set_option linter.unusedVariables false

theorem refRsqrt_call (x : Int) (w : World) :
    Calls Try.prog 24 #[.int .i64 x] w fun e w' => e = .returned (.int .i64 (rsqrtZ x)) ∧ w' = w := by
  have cb := clampZ_bounds x
  unfold rsqrtZ
  obtain ⟨c, ec⟩ : ∃ c, clampZ x = c := ⟨_, rfl⟩
  rw [ec] at cb ⊢
  obtain ⟨c0, c1⟩ := cb
  by_cases k : c < 1
  · rw [if_pos k]
    go_enter Try.func24, Try.ntmps24
    go_wp2_with (first | (go_at_call 18; refine (refClamp_call _ _).mono ?_; rintro e w' ⟨rfl, rfl⟩))
    all_goals go_ret
    all_goals exact ⟨rfl, rfl⟩
  · rw [if_neg k]
    obtain ⟨q0, q1⟩ := quot_bounds c (by omega)
    unfold rootZ
    obtain ⟨R, eR⟩ : ∃ R, rnd (281474976710656 / c) 25 0 = R := ⟨_, rfl⟩
    rw [eR]
    have ER : Hid (rnd (281474976710656 / c) 25 0 = R) := eR
    clear eR
    go_enter Try.func24, Try.ntmps24
    go_wp2_with (first | (go_at_call 18; refine (refClamp_call _ _).mono ?_; rintro e w' ⟨rfl, rfl⟩))
    go_loop [3, 4] (fun v b => ∃ (k : Nat) (r : Int), v = .int .i64 r ∧ b = .int .i64 (2 ^ k / 2) ∧ 0 ≤ r ∧ r + 2 * (2 ^ k / 2) ≤ 33554432 ∧ rnd (281474976710656 / c) k r = R) (fun _ b => (intOf b).toNat)
    case atStart => exact ⟨25, 0, rfl, rfl, by decide, by decide, ER.out⟩
    case round =>
      obtain ⟨k, r, rfl, rfl, r0, r1, er⟩ := hrel
      cases k with
      | zero =>
        have e : (2 : Int) ^ 0 / 2 = 0 := by decide
        rw [e]
        clear r1 ER
        have E : Hid (rnd (281474976710656 / c) 0 r = R) := er
        clear er
        go_wp2
        go_ret
        exact ⟨ret_int E.out, rfl⟩
      | succ k =>
        have e : (2 : Int) ^ (k + 1) / 2 = 2 ^ k := by rw [Int.pow_succ]; omega
        have p : (0 : Int) < 2 ^ k := Int.pow_pos (by decide)
        have er' : rnd (281474976710656 / c) k (if (r + 2 ^ k) * (r + 2 ^ k) ≤ (281474976710656 / c) then r + 2 ^ k else r) = R := er
        rw [e] at r1 ⊢
        clear er e
        have sq := sq_bounds (r + 2 ^ k) (by omega) (by omega)
        have E : Hid (rnd (281474976710656 / c) k (if (r + 2 ^ k) * (r + 2 ^ k) ≤ (281474976710656 / c) then r + 2 ^ k else r) = R) := er'
        clear er'
        obtain ⟨B, eB⟩ : ∃ B, (2 : Int) ^ k = B := ⟨_, rfl⟩
        rw [eB] at r1 p sq ⊢
        have EB : Hid ((2 : Int) ^ k = B) := eB
        clear eB
        obtain ⟨sq0, sq1⟩ := sq
        go_wp2
        · have h : (r + B) * (r + B) ≤ (281474976710656 / c) := by assumption
          go_round
          case rel =>
            have b := EB.out
            have e := E.out
            rw [b, if_pos h] at e
            exact ⟨k, r + B, rfl, by rw [b], by omega, by rw [b]; omega, e⟩
          case measure => simp only [intOf]; omega
        · have h : ¬(r + B) * (r + B) ≤ (281474976710656 / c) := by omega
          go_round
          case rel =>
            have b := EB.out
            have e := E.out
            rw [b, if_neg h] at e
            exact ⟨k, r, rfl, by rw [b], by omega, by rw [b]; omega, e⟩
          case measure => simp only [intOf]; omega

end Go.Proofs.Ythbddbipmoflfaa
