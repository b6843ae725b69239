/- A model's bytes begin with two letters: what stands behind them. -/
import Derived.Test.YtbmlafgolmmekabRows
import Derived.Test.YtbmlafgolmmekabView
import Derived.Test.YtbmlafgolmmekabOwn
import Derived.Test.YtbmlafgolmmekabCfg
import Derived.Test.YtbmlafgolmmekabCfgs
import Derived.Test.YtbmlafgolmmekabHeld
import Derived.Test.YtbmlafgolmmekabTexts
import Derived.Test.YtbmlafgolmmekabSums
import Derived.Test.YtbmlafgolmmekabSeals
import Derived.Test.YtbmlafgolmmekabReader
import Derived.Test.YtbmlafgolmmekabCfgRef
import Derived.Test.YtbmlafgolmmekabSteps
import Derived.Test.YtbmlafgolmmekabOpens
import Derived.WalkKit
import Derived.ProofKit
import Derived.OpenShut
import Derived.Below
import Derived.WalkLawsBesides
import Derived.Deep.QuietTactic
import Derived.BigQuiet
import Derived.Deep.RegionWith
import Derived.Deep.RegionHeld3
import Derived.Deep.OwnRows
namespace Go.Proofs.Ytbmlafgolmmekab
open Go.ChangeShapes Go.WideShapes Go.ChangeAt Go.RowKit
set_option linter.unusedVariables false


/-- the letters, and what stands behind them -/
def lettersS : ByteArray := ⟨#[71, 82]⟩
def grB (s : ByteArray) : Bool := decide (2 ≤ s.size ∧ s.extract 0 2 = lettersS)
def bodyS (s : ByteArray) : ByteArray := s.extract 2 s.size

theorem letters_list : lettersS.toList = [71, 82] := by rw [ByteArray.toList_eq]; rfl

theorem hasPrefix_call (s : ByteArray) (w : World) (hs : s.size ≤ 9223372036854775807) : Calls Try.prog 44 #[.string s, .string ⟨#[71, 82]⟩] w fun e w' => e = .returned (.bool (grB s)) ∧ w' = w := by
  by_cases h2 : s.size < 2
  · have e : grB s = false := decide_eq_false fun k => by have := k.1; omega
    rw [e]
    obtain ⟨n, en⟩ : ∃ n, s.size = n := ⟨_, rfl⟩
    rw [en] at h2 hs
    have h2' : (n : Int) < 2 := by omega
    clear e
    go_enter Try.func44, Try.ntmps44
    go_wp2
    go_ret
    exact ⟨rfl, rfl⟩
  · obtain ⟨A, eA⟩ : ∃ A, s.extract 0 2 = A := ⟨_, rfl⟩
    by_cases h3 : A = lettersS
    · have e : grB s = true := decide_eq_true ⟨by omega, by rw [eA]; exact h3⟩
      rw [e]
      have g := text_same h3
      rw [letters_list] at g
      obtain ⟨n, en⟩ : ∃ n, s.size = n := ⟨_, rfl⟩
      have h2' : (2 : Int) ≤ (n : Int) := by omega
      rw [en] at h2 hs
      clear e h3
      go_enter Try.func44, Try.ntmps44
      go_wp2
      go_ret
      exact ⟨rfl, rfl⟩
    · have e : grB s = false := decide_eq_false fun k => h3 (by rw [← eA]; exact k.2)
      rw [e]
      have g := text_other h3
      rw [letters_list] at g
      obtain ⟨n, en⟩ : ∃ n, s.size = n := ⟨_, rfl⟩
      have h2' : (2 : Int) ≤ (n : Int) := by omega
      rw [en] at h2 hs
      clear e h3
      go_enter Try.func44, Try.ntmps44
      go_wp2
      go_ret
      exact ⟨rfl, rfl⟩

theorem cutPrefix_call (s : ByteArray) (w : World) (hs : s.size ≤ 9223372036854775807) : Calls Try.prog 24 #[.string s, .string ⟨#[71, 82]⟩] w fun e w' => e = .returned (.tuple #[.string (if grB s then bodyS s else s), .bool (grB s)]) ∧ w' = w := by
  have inner : Calls Try.prog 36 #[.string s, .string ⟨#[71, 82]⟩] w fun e w' => e = .returned (.tuple #[.string (if grB s then bodyS s else s), .bool (grB s)]) ∧ w' = w := by
    have k65 := hasPrefix_call s w hs
    cases e : grB s with
    | false =>
      rw [e] at k65
      show Calls Try.prog 36 _ w fun e w' => e = .returned (.tuple #[.string s, .bool false]) ∧ w' = w
      clear e
      go_enter Try.func36, Try.ntmps36
      go_wp2_with (first | (go_at_call 44; refine k65.mono ?_; rintro e W1 ⟨rfl, h1⟩; obtain rfl := h1.symm))
      go_ret2
      exact ⟨rfl, rfl⟩
    | true =>
      have h2 := (of_decide_eq_true e).1
      rw [e] at k65
      show Calls Try.prog 36 _ w fun e w' => e = .returned (.tuple #[.string (s.extract 2 s.size), .bool true]) ∧ w' = w
      obtain ⟨B, eB⟩ : ∃ B, s.extract 2 s.size = B := ⟨_, rfl⟩
      rw [eB]
      have h2' : (2 : Int) ≤ (s.size : Int) := by omega
      clear e
      go_enter Try.func36, Try.ntmps36
      go_wp2_with (first | (go_at_call 44; refine k65.mono ?_; rintro e W1 ⟨rfl, h1⟩; obtain rfl := h1.symm))
      go_ret2
      exact ⟨rfl, rfl⟩
  obtain ⟨S, eS⟩ : ∃ S, (if grB s then bodyS s else s) = S := ⟨_, rfl⟩
  obtain ⟨B, eB⟩ : ∃ B, grB s = B := ⟨_, rfl⟩
  rw [eS] at inner ⊢
  rw [eB] at inner ⊢
  clear eS eB
  go_enter Try.func24, Try.ntmps24
  go_wp2_with (first | (go_at_call 36; refine inner.mono ?_; rintro e W1 ⟨rfl, h1⟩; obtain rfl := h1.symm))
  go_ret2
  exact ⟨rfl, rfl⟩

end Go.Proofs.Ytbmlafgolmmekab
