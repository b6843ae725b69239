/- What the document's Rank, Top and Max answer: contracts of the calls. -/
import Derived.Test.YteeljnibglnflaaRows
import Derived.Test.YteeljnibglnflaaView
import Derived.Test.YteeljnibglnflaaRanks
import Derived.Test.YteeljnibglnflaaRank
import Derived.WalkKit
import Derived.ProofKit
import Derived.OpenShut
import Derived.Below
import Derived.Deep.QuietTactic
import Derived.BigQuiet
import Derived.WalkLawsBesides
import Derived.Deep.RegionWith
import Derived.Deep.RegionLaw
import Derived.Laws.AppendOwnNone
namespace Go.Proofs.Yteeljnibglnflaa

set_option maxRecDepth 20000

open Go.ChangeShapes Go.WideShapes Go.ChangeAt Go.RowKit

set_option linter.unusedVariables false

theorem refRank_no (a0 : Option Addr) (n c0 : Nat) (i : Int) (w : World) (hn : n ≤ 9223372036854775807) (h : i < 0 ∨ (n : Int) ≤ i) :
    Calls Try.prog 38 #[.slice a0 n c0, .int .i64 i] w fun e w' => e = .returned (.int .i64 (-1)) ∧ w' = w := by
  rcases h with h | h
  · go_enter Try.func38, Try.ntmps38
    go_wp2_with fail
    go_ret
    exact ⟨rfl, rfl⟩
  · have h' : ¬i < 0 := by omega
    go_enter Try.func38, Try.ntmps38
    go_wp2_with fail
    go_ret
    exact ⟨rfl, rfl⟩

theorem ahead_gt {xs : List Int} {i j : Nat} (h : xs.getD j 0 < xs.getD i 0) : ahead xs i j = true := by rw [ahead_iff]; exact .inl h

theorem ahead_eq {xs : List Int} {i j : Nat} (h : xs.getD i 0 = xs.getD j 0) (h' : i < j) : ahead xs i j = true := by rw [ahead_iff]; exact .inr ⟨h, h'⟩

theorem ahead_no {xs : List Int} {i j : Nat} (h : ¬xs.getD j 0 < xs.getD i 0) (h' : ¬(xs.getD i 0 = xs.getD j 0 ∧ i < j)) : ¬ahead xs i j = true := by
  rw [ahead_iff]
  rintro (e | e)
  · exact h e
  · exact h' e

set_option maxHeartbeats 2000000 in
set_option maxRecDepth 20000 in
theorem refRank_ok (a0 : Option Addr) (n c0 : Nat) (xs : List Int) (i : Nat) (w : World) (h0 : Reads .i64 w a0 n xs) (hi : i < n) :
    Calls Try.prog 38 #[.slice a0 n c0, .int .i64 i] w fun e w' => e = .returned (.int .i64 (rankTo xs n i : Nat)) ∧ ∃ m, w' = w.drewN m := by
  have hm := h0.max
  obtain ⟨x, rfl⟩ := h0.some_ (by omega)
  have hi' : ¬(n : Int) ≤ (i : Int) := by omega
  go_enter Try.func38, Try.ntmps38
  go_wp2
  go_loopw [5, 6] (fun s q wr => ∃ k : Nat, k ≤ n ∧ q = .int .i64 k ∧ s = .int .i64 (rankTo xs k i : Nat) ∧ ∃ m, wr = w.drewN m) (fun _ q _ => n - (intOf q).toNat)
  case atStart => exact ⟨0, Nat.zero_le _, rfl, rfl, 0, rfl⟩
  case round =>
    obtain ⟨k, hk, rfl, rfl, m, hw⟩ := hrel
    have hR := rankTo_le xs k i
    by_cases hlt : k < n
    · have cx : wr.cell? (x.add k) = some (.int .i64 (xs.getD k 0)) := by rw [hw]; exact h0.cell x rfl k hlt
      have cy : wr.cell? (x.add i) = some (.int .i64 (xs.getD i 0)) := by rw [hw]; exact h0.cell x rfl i hi
      have Hw : Hid (wr = w.drewN m) := hw
      have eR := rankTo_succ xs k i
      by_cases h1 : xs.getD i 0 < xs.getD k 0
      · rw [if_pos (ahead_gt h1)] at eR
        obtain ⟨R, eR'⟩ : ∃ R, rankTo xs k i = R := ⟨_, rfl⟩
        rw [eR'] at eR hR ⊢
        obtain ⟨X, eX⟩ : ∃ X, xs.getD k 0 = X := ⟨_, rfl⟩
        obtain ⟨Y, eY⟩ : ∃ Y, xs.getD i 0 = Y := ⟨_, rfl⟩
        rw [eX] at cx h1
        rw [eY] at cy h1
        have g1 : decide (Y < X) = true := by simp [h1]
        clear eX eY eR' hw h0
        go_wp2
        go_quiet (fail)
        go_wp2
        go_roundw
        case rel => exact ⟨k + 1, by omega, by go_num, by rw [eR]; go_num, _, by rw [Hw.out, World.drewN_drewN]⟩
        case measure => simp [intOf]; omega
      · by_cases h2 : xs.getD k 0 = xs.getD i 0
        · by_cases h3 : k < i
          · rw [if_pos (ahead_eq h2 h3)] at eR
            obtain ⟨R, eR'⟩ : ∃ R, rankTo xs k i = R := ⟨_, rfl⟩
            rw [eR'] at eR hR ⊢
            rw [h2] at cx
            obtain ⟨Y, eY⟩ : ∃ Y, xs.getD i 0 = Y := ⟨_, rfl⟩
            rw [eY] at cx cy
            have g1 : decide (Y < Y) = false := by simp
            have g3 : decide ((k : Int) < (i : Int)) = true := by simp; omega
            have h3' : (k : Int) < (i : Int) := by omega
            clear h1 h2 eY eR' hw h0
            go_wp2
            go_quiet (fail)
            go_wp2
            go_roundw
            case rel => exact ⟨k + 1, by omega, by go_num, by rw [eR]; go_num, _, by rw [Hw.out, World.drewN_drewN]⟩
            case measure => simp [intOf]; omega
          · rw [if_neg (ahead_no h1 (by omega))] at eR
            obtain ⟨R, eR'⟩ : ∃ R, rankTo xs k i = R := ⟨_, rfl⟩
            rw [eR'] at eR hR ⊢
            rw [h2] at cx
            obtain ⟨Y, eY⟩ : ∃ Y, xs.getD i 0 = Y := ⟨_, rfl⟩
            rw [eY] at cx cy
            have g1 : decide (Y < Y) = false := by simp
            have g3 : decide ((k : Int) < (i : Int)) = false := by simp; omega
            have h3' : ¬(k : Int) < (i : Int) := by omega
            clear h1 h2 eY eR' hw h0
            go_wp2
            go_quiet (fail)
            go_wp2
            go_roundw
            case rel => exact ⟨k + 1, by omega, by go_num, by rw [eR]; go_num, _, by rw [Hw.out, World.drewN_drewN]⟩
            case measure => simp [intOf]; omega
        · rw [if_neg (ahead_no h1 (by omega))] at eR
          obtain ⟨R, eR'⟩ : ∃ R, rankTo xs k i = R := ⟨_, rfl⟩
          rw [eR'] at eR hR ⊢
          obtain ⟨X, eX⟩ : ∃ X, xs.getD k 0 = X := ⟨_, rfl⟩
          obtain ⟨Y, eY⟩ : ∃ Y, xs.getD i 0 = Y := ⟨_, rfl⟩
          rw [eX] at cx h1 h2
          rw [eY] at cy h1 h2
          have g1 : decide (Y < X) = false := by simp; omega
          have g2 : decide (X = Y) = false := by simp [h2]
          have g2' : (X == Y) = false := by simp [h2]
          clear eX eY eR' hw h0
          go_wp2
          go_quiet (fail)
          go_wp2
          go_roundw
          case rel => exact ⟨k + 1, by omega, by go_num, by rw [eR]; go_num, _, by rw [Hw.out, World.drewN_drewN]⟩
          case measure => simp [intOf]; omega
    · have e : k = n := by omega
      subst e
      subst hw
      go_wp2
      go_ret
      exact ⟨rfl, _, rfl⟩

theorem refRank_call (a0 : Option Addr) (n c0 : Nat) (xs : List Int) (i : Int) (w : World) (h0 : Reads .i64 w a0 n xs) :
    Calls Try.prog 38 #[.slice a0 n c0, .int .i64 i] w fun e w' => e = .returned (.int .i64 (rankZ xs i)) ∧ Below w.heap.size w w' := by
  have hl := h0.len
  unfold rankZ
  rw [hl]
  by_cases h : i < 0 ∨ (n : Int) ≤ i
  · rw [if_pos h]
    exact (refRank_no a0 n c0 i w h0.max h).mono fun e w' ⟨he, hw⟩ => ⟨he, hw ▸ Below.refl _ _⟩
  · rw [if_neg h]
    obtain ⟨k, rfl⟩ : ∃ k : Nat, i = k := ⟨i.toNat, by omega⟩
    exact (refRank_ok a0 n c0 xs k w h0 (by omega)).mono fun e w' ⟨he, hw⟩ => ⟨he, below_drew (Below.refl _ _) hw⟩

end Go.Proofs.Yteeljnibglnflaa
