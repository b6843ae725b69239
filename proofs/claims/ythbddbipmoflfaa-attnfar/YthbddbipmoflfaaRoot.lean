/- What root and Rsqrt of package curve give back: contracts of the calls; the greatest number whose square is at most a given one. -/
import Derived.Test.YthbddbipmoflfaaRows
import Derived.Test.YthbddbipmoflfaaSat
import Derived.WalkKit
import Derived.ProofKit
import Derived.OpenShut
import Derived.WalkLawsBesides
namespace Go.Proofs.Ythbddbipmoflfaa
open Go.ChangeShapes Go.WideShapes Go.ChangeAt Go.RowKit
set_option linter.unusedVariables false

def rnd (n : Int) : Nat → Int → Int
  | 0, r => r
  | k + 1, r => rnd n k (if (r + 2 ^ k) * (r + 2 ^ k) ≤ n then r + 2 ^ k else r)

theorem rnd_spec (n : Int) : ∀ (k : Nat) (r : Int), 0 ≤ r → r * r ≤ n → n < (r + 2 ^ k) * (r + 2 ^ k) → 0 ≤ rnd n k r ∧ rnd n k r * rnd n k r ≤ n ∧ n < (rnd n k r + 1) * (rnd n k r + 1)
  | 0, r, h0, h1, h2 => by
    unfold rnd
    exact ⟨h0, h1, by simpa using h2⟩
  | k + 1, r, h0, h1, h2 => by
    have p : (0 : Int) < 2 ^ k := Int.pow_pos (by decide)
    rw [Int.pow_succ] at h2
    unfold rnd
    split
    · rename_i h
      refine rnd_spec n k _ (by omega) h ?_
      have e : r + 2 ^ k + 2 ^ k = r + 2 ^ k * 2 := by omega
      rw [e]; exact h2
    · rename_i h
      exact rnd_spec n k _ h0 h1 (by omega)

def rootZ (n : Int) : Int := rnd n 25 0

theorem rootZ_spec (n : Int) (h0 : 0 ≤ n) (h1 : n ≤ 281474976710656) : 0 ≤ rootZ n ∧ rootZ n * rootZ n ≤ n ∧ n < (rootZ n + 1) * (rootZ n + 1) :=
  rnd_spec n 25 0 (by decide) (by omega) (by omega)

theorem sq_bounds (a : Int) (h0 : 0 ≤ a) (h1 : a ≤ 33554432) : 0 ≤ a * a ∧ a * a ≤ 1125899906842624 := by
  refine ⟨Int.mul_nonneg h0 h0, ?_⟩
  have := Int.mul_le_mul h1 h1 h0 (by decide)
  omega

theorem root_call (n : Int) (h0 : 0 ≤ n) (h1 : n ≤ 281474976710656) (w : World) :
    Calls Try.prog 46 #[.int .i64 n] w fun e w' => e = .returned (.int .i64 (rootZ n)) ∧ w' = w := by
  unfold rootZ
  obtain ⟨R, eR⟩ : ∃ R, rnd n 25 0 = R := ⟨_, rfl⟩
  rw [eR]
  have ER : Hid (rnd n 25 0 = R) := eR
  clear eR
  go_enter Try.func46, Try.ntmps46
  go_wp2
  go_loop [3, 4] (fun v b => ∃ (k : Nat) (r : Int), v = .int .i64 r ∧ b = .int .i64 (2 ^ k / 2) ∧ 0 ≤ r ∧ r + 2 * (2 ^ k / 2) ≤ 33554432 ∧ rnd n k r = R) (fun _ b => (intOf b).toNat)
  case atStart => exact ⟨25, 0, rfl, rfl, by decide, by decide, ER.out⟩
  case round =>
    obtain ⟨k, r, rfl, rfl, r0, r1, er⟩ := hrel
    cases k with
    | zero =>
      have e : (2 : Int) ^ 0 / 2 = 0 := by decide
      rw [e]
      clear r1 ER
      have E : Hid (rnd n 0 r = R) := er
      clear er
      go_wp2
      go_ret
      exact ⟨ret_int E.out, rfl⟩
    | succ k =>
      have e : (2 : Int) ^ (k + 1) / 2 = 2 ^ k := by rw [Int.pow_succ]; omega
      have p : (0 : Int) < 2 ^ k := Int.pow_pos (by decide)
      have er' : rnd n k (if (r + 2 ^ k) * (r + 2 ^ k) ≤ n then r + 2 ^ k else r) = R := er
      rw [e] at r1 ⊢
      clear er e
      have sq := sq_bounds (r + 2 ^ k) (by omega) (by omega)
      have E : Hid (rnd n k (if (r + 2 ^ k) * (r + 2 ^ k) ≤ n then r + 2 ^ k else r) = R) := er'
      clear er'
      obtain ⟨B, eB⟩ : ∃ B, (2 : Int) ^ k = B := ⟨_, rfl⟩
      rw [eB] at r1 p sq ⊢
      have EB : Hid ((2 : Int) ^ k = B) := eB
      clear eB
      obtain ⟨sq0, sq1⟩ := sq
      go_wp2
      · have h : (r + B) * (r + B) ≤ n := by assumption
        go_round
        case rel =>
          have b := EB.out
          have e := E.out
          rw [b, if_pos h] at e
          exact ⟨k, r + B, rfl, by rw [b], by omega, by rw [b]; omega, e⟩
        case measure => simp only [intOf]; omega
      · have h : ¬(r + B) * (r + B) ≤ n := by omega
        go_round
        case rel =>
          have b := EB.out
          have e := E.out
          rw [b, if_neg h] at e
          exact ⟨k, r, rfl, by rw [b], by omega, by rw [b]; omega, e⟩
        case measure => simp only [intOf]; omega

def rsqrtZ (x : Int) : Int := if clampZ x < 1 then 2147483647 else rootZ (281474976710656 / clampZ x)

theorem quot_bounds (c : Int) (h : 1 ≤ c) : 0 ≤ 281474976710656 / c ∧ 281474976710656 / c ≤ 281474976710656 :=
  ⟨Int.ediv_nonneg (by decide) (by omega), Int.ediv_le_self _ (by decide)⟩

theorem rsqrt_call (x : Int) (w : World) :
    Calls Try.prog 37 #[.int .i64 x] w fun e w' => e = .returned (.int .i64 (rsqrtZ x)) ∧ w' = w := by
  have cb := clampZ_bounds x
  unfold rsqrtZ
  obtain ⟨c, ec⟩ : ∃ c, clampZ x = c := ⟨_, rfl⟩
  rw [ec] at cb ⊢
  obtain ⟨c0, c1⟩ := cb
  by_cases k : c < 1
  · rw [if_pos k]
    go_enter Try.func37, Try.ntmps37
    go_wp2_with (first | (go_at_call 35; refine (clamp_call _ _).mono ?_; rintro e w' ⟨rfl, rfl⟩) | (go_at_call 46; refine (root_call _ (by omega) (by omega) _).mono ?_; rintro e w' ⟨rfl, rfl⟩))
    all_goals go_ret
    all_goals exact ⟨rfl, rfl⟩
  · rw [if_neg k]
    obtain ⟨q0, q1⟩ := quot_bounds c (by omega)
    go_enter Try.func37, Try.ntmps37
    go_wp2_with (first | (go_at_call 35; refine (clamp_call _ _).mono ?_; rintro e w' ⟨rfl, rfl⟩) | (go_at_call 46; refine (root_call _ (by omega) (by omega) _).mono ?_; rintro e w' ⟨rfl, rfl⟩))
    all_goals go_ret
    all_goals exact ⟨rfl, rfl⟩

end Go.Proofs.Ythbddbipmoflfaa
