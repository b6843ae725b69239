/- Comparing two numbers; the first of two numbers that is not nought; the closure that compares two places of a row. -/
import Derived.Test.YtkoifogkdbhpcaaRows
import Derived.Test.YtkoifogkdbhpcaaView
import Derived.Test.YtkoifogkdbhpcaaRanks
import Derived.WalkKit
import Derived.ProofKit
import Derived.OpenShut
import Derived.Below
import Derived.Deep.QuietTactic
import Derived.BigQuiet
import Derived.WalkLawsBesides
import Derived.Deep.RegionWith
namespace Go.Proofs.Ytkoifogkdbhpcaa
set_option maxRecDepth 20000

open Go.ChangeShapes Go.WideShapes Go.ChangeAt Go.RowKit

set_option linter.unusedVariables false

def cmpI (a b : Int) : Int := if a < b then -1 else if b < a then 1 else 0

def orI (u v : Int) : Int := if u = 0 then v else u

theorem cmp64_call (a b : Int) (w : World) : Calls Try.prog 44 #[.int .i64 a, .int .i64 b] w fun e w' => e = .returned (.int .i64 (cmpI a b)) ∧ w' = w := by
  unfold cmpI
  by_cases h : a < b
  · rw [if_pos h]
    go_enter Try.func44, Try.ntmps44
    go_wp2
    go_ret
    exact ⟨rfl, rfl⟩
  · rw [if_neg h]
    by_cases h' : b < a
    · rw [if_pos h']
      go_enter Try.func44, Try.ntmps44
      go_wp2
      go_ret
      exact ⟨rfl, rfl⟩
    · rw [if_neg h']
      go_enter Try.func44, Try.ntmps44
      go_wp2
      go_ret
      exact ⟨rfl, rfl⟩

theorem cmpInt_call (a b : Int) (w : World) : Calls Try.prog 45 #[.int .i64 a, .int .i64 b] w fun e w' => e = .returned (.int .i64 (cmpI a b)) ∧ w' = w := by
  unfold cmpI
  by_cases h : a < b
  · rw [if_pos h]
    go_enter Try.func45, Try.ntmps45
    go_wp2
    go_ret
    exact ⟨rfl, rfl⟩
  · rw [if_neg h]
    by_cases h' : b < a
    · rw [if_pos h']
      go_enter Try.func45, Try.ntmps45
      go_wp2
      go_ret
      exact ⟨rfl, rfl⟩
    · rw [if_neg h']
      go_enter Try.func45, Try.ntmps45
      go_wp2
      go_ret
      exact ⟨rfl, rfl⟩

theorem or_call (b : Nat) (c : Nat) (u v : Int) (w : World) (h0 : w.cell? ⟨b, 0, none⟩ = some (.int .i64 u)) (h1 : w.cell? ⟨b, 1, none⟩ = some (.int .i64 v)) :
    Calls Try.prog 43 #[.slice (some ⟨b, 0, none⟩) 2 c] w fun e w' => e = .returned (.int .i64 (orI u v)) ∧ w' = w := by
  unfold orI
  by_cases hu : u = 0
  · rw [if_pos hu]
    subst hu
    by_cases hv : v = 0
    · subst hv
      go_enter Try.func43, Try.ntmps43
      go_wp2
      refine wp_loop_rounds 3 ?_
      rw [rounds_succ]
      go_wp2
      rw [rounds_succ]
      go_wp2
      rw [rounds_succ]
      go_wp2
      go_ret
      exact ⟨rfl, rfl⟩
    · go_enter Try.func43, Try.ntmps43
      go_wp2
      refine wp_loop_rounds 2 ?_
      rw [rounds_succ]
      go_wp2
      rw [rounds_succ]
      go_wp2
      go_ret
      exact ⟨rfl, rfl⟩
  · rw [if_neg hu]
    go_enter Try.func43, Try.ntmps43
    go_wp2
    refine wp_loop_rounds 1 ?_
    rw [rounds_succ]
    go_wp2
    go_ret
    exact ⟨rfl, rfl⟩

theorem cf_eq (xs : List Int) (i j : Nat) : orI (cmpI (xs.getD j 0) (xs.getD i 0)) (cmpI i j) = cfZ xs i j := by
  unfold orI cmpI cfZ
  repeat' split
  all_goals omega

theorem order_call (a : Option Addr) (n c : Nat) (w : World) :
    Calls Try.prog 32 #[.slice a n c] w fun e w' => e = .returned (.func (.func 42) #[] #[.pointer (some ⟨w.heap.size, 0, none⟩)]) ∧ w' = w.alloc (.cells #[.slice a n c] 29) := by
  go_enter Try.func32, Try.ntmps32
  go_wp2
  go_ret
  exact ⟨rfl, rfl⟩

set_option maxHeartbeats 2000000 in
theorem closure_call (b : Nat) (x : Addr) (n c : Nat) (xs : List Int) (i j : Nat) (hi : i < n) (hj : j < n) (w : World) (hbx : w.cell? ⟨b, 0, none⟩ = some (.slice (some x) n c)) (h0 : Reads .i64 w (some x) n xs) :
    Calls Try.prog 42 #[.int .i64 i, .int .i64 j, .pointer (some ⟨b, 0, none⟩)] w fun e w' => e = .returned (.int .i64 (cfZ xs i j)) ∧ ∃ o, w' = (w.alloc o).drew := by
  have hm := h0.max
  have ci := h0.cell x rfl i hi
  have cj := h0.cell x rfl j hj
  have hb : b < w.heap.size := World.block_lt_of_cell? _ _ hbx
  rw [← cf_eq]
  obtain ⟨X, eX⟩ : ∃ X, xs.getD i 0 = X := ⟨_, rfl⟩
  obtain ⟨Y, eY⟩ : ∃ Y, xs.getD j 0 = Y := ⟨_, rfl⟩
  rw [eX] at ci ⊢
  rw [eY] at cj ⊢
  clear eX eY h0
  have k1 := fun W => cmp64_call Y X W
  have k2 := fun W => cmpInt_call i j W
  obtain ⟨A, eA⟩ : ∃ A, cmpI Y X = A := ⟨_, rfl⟩
  obtain ⟨B, eB⟩ : ∃ B, cmpI i j = B := ⟨_, rfl⟩
  rw [eA] at k1 ⊢
  rw [eB] at k2 ⊢
  clear eA eB
  go_enter Try.func42, Try.ntmps42
  go_wp2
  go_region_with (first
    | (go_at_call 44; refine (k1 _).mono ?_; rintro e W1 ⟨rfl, hw⟩; obtain rfl := hw.symm; clear hw)
    | (go_at_call 45; refine (k2 _).mono ?_; rintro e W1 ⟨rfl, hw⟩; obtain rfl := hw.symm; clear hw)
    | (go_at_call 43; refine (or_call _ _ A B _ (by simp) (by simp)).mono ?_; rintro e W1 ⟨rfl, hw⟩; obtain rfl := hw.symm; clear hw))
  all_goals
    go_wp2
    go_ret
    exact ⟨rfl, _, rfl⟩

end Go.Proofs.Ytkoifogkdbhpcaa
