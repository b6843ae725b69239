/- Configurations: eight numbers; when they are right; the program's Config and the document's. -/
import Derived.Test.YtcpnakghndfdpaaRows
import Derived.WalkKit
import Derived.ProofKit
import Derived.OpenShut
import Derived.Below
import Derived.Deep.QuietTactic
import Derived.BigQuiet
import Derived.WalkLawsBesides
import Derived.Deep.RegionWith
namespace Go.Proofs.Ytcpnakghndfdpaa

set_option maxRecDepth 20000

open Go.ChangeShapes Go.WideShapes Go.ChangeAt Go.RowKit

set_option linter.unusedVariables false

def headsB (d h : Int) : Bool := decide (2 ≤ d ∧ d ≤ 8 ∧ 1 ≤ h ∧ d % h = 0 ∧ d / h % 2 = 0)

def expertsB (x t : Int) : Bool := decide ((x = 0 ∧ t = 0) ∨ (2 ≤ x ∧ x ≤ 4 ∧ 1 ≤ t ∧ t ≤ x))

theorem within_call (n a b : Int) (w : World) : Calls Try.prog 38 #[.int .i64 n, .int .i64 a, .int .i64 b] w fun e w' => e = .returned (.bool (decide (a ≤ n ∧ n ≤ b))) ∧ w' = w := by
  by_cases h1 : a ≤ n
  · by_cases h2 : n ≤ b
    · rw [show decide (a ≤ n ∧ n ≤ b) = true by simp [h1, h2]]
      go_enter Try.func38, Try.ntmps38
      go_wp2
      go_ret
      exact ⟨rfl, rfl⟩
    · rw [show decide (a ≤ n ∧ n ≤ b) = false by simp [h2]]
      go_enter Try.func38, Try.ntmps38
      go_wp2
      go_ret
      exact ⟨rfl, rfl⟩
  · rw [show decide (a ≤ n ∧ n ≤ b) = false by simp [h1]]
    go_enter Try.func38, Try.ntmps38
    go_wp2
    go_ret
    exact ⟨rfl, rfl⟩

theorem in_call (n a b : Int) (w : World) : Calls Try.prog 42 #[.int .i64 n, .int .i64 a, .int .i64 b] w fun e w' => e = .returned (.bool (decide (a ≤ n ∧ n ≤ b))) ∧ w' = w := by
  by_cases h1 : a ≤ n
  · by_cases h2 : n ≤ b
    · rw [show decide (a ≤ n ∧ n ≤ b) = true by simp [h1, h2]]
      go_enter Try.func42, Try.ntmps42
      go_wp2
      go_ret
      exact ⟨rfl, rfl⟩
    · rw [show decide (a ≤ n ∧ n ≤ b) = false by simp [h2]]
      go_enter Try.func42, Try.ntmps42
      go_wp2
      go_ret
      exact ⟨rfl, rfl⟩
  · rw [show decide (a ≤ n ∧ n ≤ b) = false by simp [h1]]
    go_enter Try.func42, Try.ntmps42
    go_wp2
    go_ret
    exact ⟨rfl, rfl⟩

theorem heads_no0 {d h : Int} (x : ¬ (2 ≤ d ∧ d ≤ 8)) : headsB d h = false := decide_eq_false fun y => x ⟨y.1, y.2.1⟩

theorem heads_no1 {d h : Int} (x : h < 1) : headsB d h = false := decide_eq_false fun y => by have := y.2.2.1; omega

theorem heads_no2 {d h : Int} (x : ¬ d % h = 0) : headsB d h = false := decide_eq_false fun y => x y.2.2.2.1

theorem heads_yes {d h : Int} (x : 2 ≤ d ∧ d ≤ 8) (y : 1 ≤ h) (z : d % h = 0) : headsB d h = ((d / h).tmod 2 == 0) := by
  have e : (d / h).tmod 2 = d / h % 2 := Int.tmod_eq_emod_of_nonneg (Int.ediv_nonneg (by have := x.1; omega) (by omega))
  rw [e]
  unfold headsB
  by_cases g : d / h % 2 = 0
  · rw [decide_eq_true ⟨x.1, x.2, y, z, g⟩, g]; rfl
  · rw [decide_eq_false (fun u => g u.2.2.2.2)]
    exact (beq_false_of_ne g).symm

theorem rightHeads_call (d h l v u x t n : Int) (w : World) : Calls Try.prog 36 #[.agg #[.int .i64 d, .int .i64 h, .int .i64 l, .int .i64 v, .int .i64 u, .int .i64 x, .int .i64 t, .int .i64 n]] w fun e w' => e = .returned (.bool (headsB d h)) ∧ Below w.heap.size w w' := by
  have k1 := within_call d 2 8
  by_cases g0 : 2 ≤ d ∧ d ≤ 8
  · simp only [decide_eq_true g0] at k1
    by_cases g1 : h < 1
    · rw [heads_no1 g1]
      go_enter Try.func36, Try.ntmps36
      go_wp2_with (first | (go_at_call 38; refine (k1 _).mono ?_; rintro e w' ⟨rfl, rfl⟩))
      go_ret
      exact ⟨rfl, (Below.refl _ w).alloc (Nat.le_refl _) _⟩
    · have g1' : 1 ≤ h := by omega
      obtain ⟨g3, g4⟩ := g0
      by_cases g2 : d % h = 0
      · rw [heads_yes ⟨g3, g4⟩ g1' g2]
        go_enter Try.func36, Try.ntmps36
        go_wp2_with (first | (go_at_call 38; refine (k1 _).mono ?_; rintro e w' ⟨rfl, rfl⟩))
        go_ret
        exact ⟨rfl, (Below.refl _ w).alloc (Nat.le_refl _) _⟩
      · rw [heads_no2 g2]
        go_enter Try.func36, Try.ntmps36
        go_wp2_with (first | (go_at_call 38; refine (k1 _).mono ?_; rintro e w' ⟨rfl, rfl⟩))
        go_ret
        exact ⟨rfl, (Below.refl _ w).alloc (Nat.le_refl _) _⟩
  · simp only [decide_eq_false g0] at k1
    rw [heads_no0 g0]
    clear g0
    go_enter Try.func36, Try.ntmps36
    go_wp2_with (first | (go_at_call 38; refine (k1 _).mono ?_; rintro e w' ⟨rfl, rfl⟩))
    go_ret
    exact ⟨rfl, (Below.refl _ w).alloc (Nat.le_refl _) _⟩

theorem rightExperts_call (d h l v u x t n : Int) (w : World) : Calls Try.prog 37 #[.agg #[.int .i64 d, .int .i64 h, .int .i64 l, .int .i64 v, .int .i64 u, .int .i64 x, .int .i64 t, .int .i64 n]] w fun e w' => e = .returned (.bool (expertsB x t)) ∧ Below w.heap.size w w' := by
  by_cases g0 : x = 0
  · subst g0
    have e : expertsB 0 t = (t == 0) := by
      unfold expertsB
      rw [Bool.eq_iff_iff]
      simp
    rw [e]
    clear e
    go_enter Try.func37, Try.ntmps37
    go_wp2
    go_ret
    exact ⟨rfl, (Below.refl _ w).alloc (Nat.le_refl _) _⟩
  · have k1 := within_call x 2 4
    have k2 := within_call t 1 x
    have g0' : (x == 0) = false := by simp [g0]
    by_cases g1 : 2 ≤ x ∧ x ≤ 4
    · have e : expertsB x t = decide (1 ≤ t ∧ t ≤ x) := by
        unfold expertsB
        rw [Bool.eq_iff_iff]
        simp
        omega
      rw [e]
      clear e
      simp only [decide_eq_true g1] at k1
      clear g1 g0
      obtain ⟨B, eB⟩ : ∃ B, decide (1 ≤ t ∧ t ≤ x) = B := ⟨_, rfl⟩
      simp only [eB] at k2 ⊢
      clear eB
      go_enter Try.func37, Try.ntmps37
      go_wp2_with (first | (go_at_call_of 38 t; clear k1; refine (k2 _).mono ?_; rintro e w' ⟨rfl, rfl⟩) | (go_at_call 38; refine (k1 _).mono ?_; rintro e w' ⟨rfl, rfl⟩))
      go_ret
      exact ⟨rfl, (Below.refl _ w).alloc (Nat.le_refl _) _⟩
    · have e : expertsB x t = false := by
        unfold expertsB
        rw [Bool.eq_iff_iff]
        simp
        omega
      rw [e]
      clear e
      simp only [decide_eq_false g1] at k1
      clear g1 g0 k2
      go_enter Try.func37, Try.ntmps37
      go_wp2_with (first | (go_at_call 38; refine (k1 _).mono ?_; rintro e w' ⟨rfl, rfl⟩))
      go_ret
      exact ⟨rfl, (Below.refl _ w).alloc (Nat.le_refl _) _⟩

end Go.Proofs.Ytcpnakghndfdpaa
