/- Keys and values that do not fit: the contract of the program. -/
import Derived.Test.YthbddbipmoflfaaRows
import Derived.Test.YthbddbipmoflfaaView
import Derived.Test.YthbddbipmoflfaaOwn
import Derived.Test.YthbddbipmoflfaaMean
import Derived.Test.YthbddbipmoflfaaAtPlain
import Derived.Test.YthbddbipmoflfaaAtFits
import Derived.WalkKit
import Derived.ProofKit
import Derived.OpenShut
import Derived.Below
import Derived.WalkLawsBesides
import Derived.Deep.QuietTactic
import Derived.BigQuiet
namespace Go.Proofs.Ythbddbipmoflfaa
open Go.ChangeShapes Go.WideShapes Go.ChangeAt Go.RowKit
set_option linter.unusedVariables false

theorem fits_no (a0 : Option Addr) (d c0 : Nat) (a1 : Option Addr) (n c1 : Nat) (A : Nat → Option Addr) (C : Nat → Nat) (K : Nat → List Int) (a2 : Option Addr) (m c2 : Nat) (A' : Nat → Option Addr) (C' : Nat → Nat) (V : Nat → List Int) (w : World)
    (h1 : Grid w a1 n A C K) (h2 : Grid w a2 m A' C' V) (hf : fitB d n m K V = false) :
    Calls Try.prog 19 #[.slice a0 d c0, .slice a1 n c1, .slice a2 m c2] w fun e w' => e = .returned (.bool false) ∧ w' = w := by
  have hm := h1.max
  replace hf := fitB_not hf
  by_cases hd : 0 < d
  case neg =>
    obtain rfl : d = 0 := by omega
    clear hf
    go_enter Try.func19, Try.ntmps19
    go_wp2
    go_ret
    exact ⟨rfl, rfl⟩
  have zd : ((d : Int) == 0) = false := by simp; omega
  by_cases hn : 0 < n
  case neg =>
    obtain rfl : n = 0 := by omega
    clear hf
    go_enter Try.func19, Try.ntmps19
    go_wp2
    go_ret
    exact ⟨rfl, rfl⟩
  have zn : ((n : Int) == 0) = false := by simp; omega
  by_cases hnm : n = m
  case neg =>
    have znm : ((n : Int) == (m : Int)) = false := by simp; omega
    clear hf
    go_enter Try.func19, Try.ntmps19
    go_wp2
    go_ret
    exact ⟨rfl, rfl⟩
  subst hnm
  replace hf : ¬∀ r, r < n → (K r).length = d ∧ (V r).length = d := fun h => hf ⟨hd, hn, rfl, h⟩
  obtain ⟨x, rfl⟩ := h1.some_ hn
  obtain ⟨y, rfl⟩ := h2.some_ hn
  go_enter Try.func19, Try.ntmps19
  go_wp2
  go_loopw [25] (fun i wr => ∃ k : Nat, k ≤ n ∧ i = .int .i64 k ∧ wr = w ∧ ∀ r, r < k → (K r).length = d ∧ (V r).length = d) (fun i _ => n - (intOf i).toNat)
  case atStart => exact ⟨0, Nat.zero_le _, rfl, rfl, fun r h => by omega⟩
  case round =>
    obtain ⟨k, hk, rfl, hw, hs⟩ := hrel
    subst hw
    by_cases hlt : k < n
    · have cx := h1.cell x rfl k hlt
      have cy := h2.cell y rfl k hlt
      have Hs : Hid (∀ r, r < k → (K r).length = d ∧ (V r).length = d) := hs
      clear hs h1 h2 hf
      obtain ⟨g, eg⟩ : ∃ g, (K k).length = g := ⟨_, rfl⟩
      obtain ⟨g', eg'⟩ : ∃ g', (V k).length = g' := ⟨_, rfl⟩
      rw [eg] at cx
      rw [eg'] at cy
      have Eg : Hid ((K k).length = g ∧ (V k).length = g') := ⟨eg, eg'⟩
      clear eg eg'
      by_cases e1 : g = d
      · subst e1
        by_cases e2 : g' = g
        · subst e2
          go_wp2
          go_roundw
          case rel =>
            refine ⟨k + 1, by omega, by go_num, trivial, fun r hr => ?_⟩
            by_cases e : r = k
            · subst e; exact Eg.out
            · exact Hs.out r (by omega)
          case measure => simp [intOf]; omega
        · have z2 : ((g' : Int) == (g : Int)) = false := by simp; omega
          go_wp2
          go_ret
          exact ⟨rfl, rfl⟩
      · have z1 : ((g : Int) == (d : Int)) = false := by simp; omega
        go_wp2
        go_ret
        exact ⟨rfl, rfl⟩
    · exact absurd (fun r hr => hs r (by omega)) hf

theorem fits_call (a0 : Option Addr) (d c0 : Nat) (a1 : Option Addr) (n c1 : Nat) (A : Nat → Option Addr) (C : Nat → Nat) (K : Nat → List Int) (a2 : Option Addr) (m c2 : Nat) (A' : Nat → Option Addr) (C' : Nat → Nat) (V : Nat → List Int) (w : World)
    (h1 : Grid w a1 n A C K) (h2 : Grid w a2 m A' C' V) :
    Calls Try.prog 19 #[.slice a0 d c0, .slice a1 n c1, .slice a2 m c2] w fun e w' => e = .returned (.bool (fitB d n m K V)) ∧ w' = w := by
  cases hf : fitB d n m K V with
  | true =>
    obtain ⟨hd, hn, rfl, hr⟩ := (fitB_iff ..).1 hf
    exact fits_yes _ _ _ _ _ _ _ _ _ _ _ _ _ _ _ h1 h2 hd hn hr
  | false => exact fits_no _ _ _ _ _ _ _ _ _ _ _ _ _ _ _ _ h1 h2 hf

end Go.Proofs.Ythbddbipmoflfaa
