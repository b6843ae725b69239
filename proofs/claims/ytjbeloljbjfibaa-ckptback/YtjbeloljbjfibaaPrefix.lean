/- A model's bytes begin with two letters: what stands behind them. -/
import Derived.Test.YtjbeloljbjfibaaRows
import Derived.Test.YtjbeloljbjfibaaLayer8
import Derived.Test.YtjbeloljbjfibaaConf
import Derived.Test.YtjbeloljbjfibaaBlank
import Derived.Test.YtjbeloljbjfibaaCfgRef
import Derived.Test.YtjbeloljbjfibaaSize
import Derived.Test.YtjbeloljbjfibaaSizes
import Derived.Test.YtjbeloljbjfibaaSteps
import Derived.Test.YtjbeloljbjfibaaClo54
import Derived.Test.YtjbeloljbjfibaaFill
import Derived.Test.YtjbeloljbjfibaaMods
import Derived.WalkKit
import Derived.ProofKit
import Derived.OpenShut
import Derived.Below
import Derived.WalkLawsBesides
import Derived.Deep.QuietTactic
import Derived.BigQuiet
import Derived.Deep.RegionWith
import Derived.Deep.RegionHeld3
import Derived.Deep.OwnRows
namespace Go.Proofs.Ytjbeloljbjfibaa
open Go.ChangeShapes Go.WideShapes Go.ChangeAt Go.RowKit
set_option linter.unusedVariables false


/-- the letters, and what stands behind them -/
def lettersS : ByteArray := ⟨#[65, 86]⟩
def avB (s : ByteArray) : Bool := decide (2 ≤ s.size ∧ s.extract 0 2 = lettersS)
def bodyS (s : ByteArray) : ByteArray := s.extract 2 s.size

theorem letters_list : lettersS.toList = [65, 86] := by rw [ByteArray.toList_eq]; rfl

theorem hasPrefix_call (s : ByteArray) (w : World) (hs : s.size ≤ 9223372036854775807) : Calls Try.prog 65 #[.string s, .string ⟨#[65, 86]⟩] w fun e w' => e = .returned (.bool (avB s)) ∧ w' = w := by
  by_cases h2 : s.size < 2
  · have e : avB s = false := decide_eq_false fun k => by have := k.1; omega
    rw [e]
    obtain ⟨n, en⟩ : ∃ n, s.size = n := ⟨_, rfl⟩
    rw [en] at h2 hs
    have h2' : (n : Int) < 2 := by omega
    clear e
    go_enter Try.func65, Try.ntmps65
    go_wp2
    go_ret
    exact ⟨rfl, rfl⟩
  · obtain ⟨A, eA⟩ : ∃ A, s.extract 0 2 = A := ⟨_, rfl⟩
    by_cases h3 : A = lettersS
    · have e : avB s = true := decide_eq_true ⟨by omega, by rw [eA]; exact h3⟩
      rw [e]
      have g := text_same h3
      rw [letters_list] at g
      obtain ⟨n, en⟩ : ∃ n, s.size = n := ⟨_, rfl⟩
      have h2' : (2 : Int) ≤ (n : Int) := by omega
      rw [en] at h2 hs
      clear e h3
      go_enter Try.func65, Try.ntmps65
      go_wp2
      go_ret
      exact ⟨rfl, rfl⟩
    · have e : avB s = false := decide_eq_false fun k => h3 (by rw [← eA]; exact k.2)
      rw [e]
      have g := text_other h3
      rw [letters_list] at g
      obtain ⟨n, en⟩ : ∃ n, s.size = n := ⟨_, rfl⟩
      have h2' : (2 : Int) ≤ (n : Int) := by omega
      rw [en] at h2 hs
      clear e h3
      go_enter Try.func65, Try.ntmps65
      go_wp2
      go_ret
      exact ⟨rfl, rfl⟩

theorem cutPrefix_call (s : ByteArray) (w : World) (hs : s.size ≤ 9223372036854775807) : Calls Try.prog 48 #[.string s, .string ⟨#[65, 86]⟩] w fun e w' => e = .returned (.tuple #[.string (if avB s then bodyS s else s), .bool (avB s)]) ∧ w' = w := by
  have inner : Calls Try.prog 60 #[.string s, .string ⟨#[65, 86]⟩] w fun e w' => e = .returned (.tuple #[.string (if avB s then bodyS s else s), .bool (avB s)]) ∧ w' = w := by
    have k65 := hasPrefix_call s w hs
    cases e : avB s with
    | false =>
      rw [e] at k65
      show Calls Try.prog 60 _ w fun e w' => e = .returned (.tuple #[.string s, .bool false]) ∧ w' = w
      clear e
      go_enter Try.func60, Try.ntmps60
      go_wp2_with (first | (go_at_call 65; refine k65.mono ?_; rintro e W1 ⟨rfl, h1⟩; obtain rfl := h1.symm))
      go_ret2
      exact ⟨rfl, rfl⟩
    | true =>
      have h2 := (of_decide_eq_true e).1
      rw [e] at k65
      show Calls Try.prog 60 _ w fun e w' => e = .returned (.tuple #[.string (s.extract 2 s.size), .bool true]) ∧ w' = w
      obtain ⟨B, eB⟩ : ∃ B, s.extract 2 s.size = B := ⟨_, rfl⟩
      rw [eB]
      have h2' : (2 : Int) ≤ (s.size : Int) := by omega
      clear e
      go_enter Try.func60, Try.ntmps60
      go_wp2_with (first | (go_at_call 65; refine k65.mono ?_; rintro e W1 ⟨rfl, h1⟩; obtain rfl := h1.symm))
      go_ret2
      exact ⟨rfl, rfl⟩
  obtain ⟨S, eS⟩ : ∃ S, (if avB s then bodyS s else s) = S := ⟨_, rfl⟩
  obtain ⟨B, eB⟩ : ∃ B, avB s = B := ⟨_, rfl⟩
  rw [eS] at inner ⊢
  rw [eB] at inner ⊢
  clear eS eB
  go_enter Try.func48, Try.ntmps48
  go_wp2_with (first | (go_at_call 60; refine inner.mono ?_; rintro e W1 ⟨rfl, h1⟩; obtain rfl := h1.symm))
  go_ret2
  exact ⟨rfl, rfl⟩

end Go.Proofs.Ytjbeloljbjfibaa
