/- Whether keys and values fit: the contract of the document. -/
import Derived.Test.YthbddbipmoflfaaRows
import Derived.Test.YthbddbipmoflfaaView
import Derived.Test.YthbddbipmoflfaaOwn
import Derived.Test.YthbddbipmoflfaaMean
import Derived.Test.YthbddbipmoflfaaAtPlain
import Derived.WalkKit
import Derived.ProofKit
import Derived.OpenShut
import Derived.Below
import Derived.WalkLawsBesides
import Derived.Deep.QuietTactic
import Derived.BigQuiet
namespace Go.Proofs.Ythbddbipmoflfaa
open Go.ChangeShapes Go.WideShapes Go.ChangeAt Go.RowKit
set_option linter.unusedVariables false

theorem shapes_yes (a0 : Option Addr) (d c0 : Nat) (a1 : Option Addr) (n c1 : Nat) (A : Nat → Option Addr) (C : Nat → Nat) (K : Nat → List Int) (a2 : Option Addr) (c2 : Nat) (A' : Nat → Option Addr) (C' : Nat → Nat) (V : Nat → List Int) (w : World)
    (h1 : Grid w a1 n A C K) (h2 : Grid w a2 n A' C' V) (hd : 0 < d) (hn : 0 < n) (hr : ∀ r, r < n → (K r).length = d ∧ (V r).length = d) :
    Calls Try.prog 23 #[.slice a0 d c0, .slice a1 n c1, .slice a2 n c2] w fun e w' => e = .returned (.bool true) ∧ w' = w := by
  have hm := h1.max
  obtain ⟨x, rfl⟩ := h1.some_ hn
  obtain ⟨y, rfl⟩ := h2.some_ hn
  have c1' := fun k (hk : k < n) => (hr k hk).1 ▸ h1.cell x rfl k hk
  have c2' := fun k (hk : k < n) => (hr k hk).2 ▸ h2.cell y rfl k hk
  have pd : decide ((0 : Int) < (d : Int)) = true := by simp; omega
  have pn : decide ((0 : Int) < (n : Int)) = true := by simp; omega
  clear h1 h2 hr
  go_enter Try.func23, Try.ntmps23
  go_wp2
  go_loopw [7, 8] (fun b i wr => ∃ k : Nat, k ≤ n ∧ i = .int .i64 k ∧ b = .bool true ∧ wr = w) (fun _ i _ => n - (intOf i).toNat)
  case atStart => exact ⟨0, Nat.zero_le _, rfl, rfl, rfl⟩
  case round =>
    obtain ⟨k, hk, rfl, rfl, hw⟩ := hrel
    subst hw
    by_cases hlt : k < n
    · have cx := c1' k hlt
      have cy := c2' k hlt
      clear c1' c2'
      go_wp2
      go_roundw
      case rel => exact ⟨k + 1, by omega, by go_num, by simp, trivial⟩
      case measure => simp [intOf]; omega
    · have e : k = n := by omega
      subst e
      go_wp2
      go_ret
      exact ⟨rfl, rfl⟩

theorem shapes_no (a0 : Option Addr) (d c0 : Nat) (a1 : Option Addr) (n c1 : Nat) (A : Nat → Option Addr) (C : Nat → Nat) (K : Nat → List Int) (a2 : Option Addr) (m c2 : Nat) (A' : Nat → Option Addr) (C' : Nat → Nat) (V : Nat → List Int) (w : World)
    (h1 : Grid w a1 n A C K) (h2 : Grid w a2 m A' C' V) (hf : fitB d n m K V = false) :
    Calls Try.prog 23 #[.slice a0 d c0, .slice a1 n c1, .slice a2 m c2] w fun e w' => e = .returned (.bool false) ∧ w' = w := by
  have hm := h1.max
  replace hf := fitB_not hf
  have off : ¬(0 < d ∧ 0 < n ∧ n = m) → Calls Try.prog 23 #[.slice a0 d c0, .slice a1 n c1, .slice a2 m c2] w fun e w' => e = .returned (.bool false) ∧ w' = w := fun h => by
    clear hf h1 h2
    by_cases hd : 0 < d
    · have pd : decide ((0 : Int) < (d : Int)) = true := by simp; omega
      by_cases hn : 0 < n
      · have pn : decide ((0 : Int) < (n : Int)) = true := by simp; omega
        have pm : ((n : Int) == (m : Int)) = false := by simp; omega
        go_enter Try.func23, Try.ntmps23
        go_wp2
        go_loopw [7, 8] (fun b i wr => i = .int .i64 0 ∧ b = .bool false ∧ wr = w) (fun _ i _ => 0)
        case atStart => exact ⟨rfl, rfl, rfl⟩
        case round =>
          obtain ⟨rfl, rfl, hw⟩ := hrel
          subst hw
          go_wp2
          go_ret
          exact ⟨rfl, rfl⟩
      · obtain rfl : n = 0 := by omega
        go_enter Try.func23, Try.ntmps23
        go_wp2
        go_loopw [7, 8] (fun b i wr => i = .int .i64 0 ∧ b = .bool false ∧ wr = w) (fun _ i _ => 0)
        case atStart => exact ⟨rfl, rfl, rfl⟩
        case round =>
          obtain ⟨rfl, rfl, hw⟩ := hrel
          subst hw
          go_wp2
          go_ret
          exact ⟨rfl, rfl⟩
    · obtain rfl : d = 0 := by omega
      go_enter Try.func23, Try.ntmps23
      go_wp2
      go_loopw [7, 8] (fun b i wr => i = .int .i64 0 ∧ b = .bool false ∧ wr = w) (fun _ i _ => 0)
      case atStart => exact ⟨rfl, rfl, rfl⟩
      case round =>
        obtain ⟨rfl, rfl, hw⟩ := hrel
        subst hw
        go_wp2
        all_goals
          go_ret
          exact ⟨rfl, rfl⟩
  by_cases hh : 0 < d ∧ 0 < n ∧ n = m
  case neg => exact off hh
  clear off
  obtain ⟨hd, hn, rfl⟩ := hh
  replace hf : ¬∀ r, r < n → (K r).length = d ∧ (V r).length = d := fun h => hf ⟨hd, hn, rfl, h⟩
  have pd : decide ((0 : Int) < (d : Int)) = true := by simp; omega
  have pn : decide ((0 : Int) < (n : Int)) = true := by simp; omega
  obtain ⟨x, rfl⟩ := h1.some_ hn
  obtain ⟨y, rfl⟩ := h2.some_ hn
  go_enter Try.func23, Try.ntmps23
  go_wp2
  go_loopw [7, 8] (fun b i wr => ∃ k : Nat, ∃ f : Bool, k ≤ n ∧ i = .int .i64 k ∧ b = .bool f ∧ wr = w ∧ (f = true → ∀ r, r < k → (K r).length = d ∧ (V r).length = d)) (fun _ i _ => n - (intOf i).toNat)
  case atStart => exact ⟨0, true, Nat.zero_le _, rfl, rfl, rfl, fun _ r h => by omega⟩
  case round =>
    obtain ⟨k, f, hk, rfl, rfl, hw, hs⟩ := hrel
    subst hw
    cases f with
    | false =>
      clear hs hf h1 h2
      by_cases hlt : k < n
      · go_wp2
        go_ret
        exact ⟨rfl, rfl⟩
      · have e : k = n := by omega
        subst e
        go_wp2
        go_ret
        exact ⟨rfl, rfl⟩
    | true =>
      by_cases hlt : k < n
      · have cx := h1.cell x rfl k hlt
        have cy := h2.cell y rfl k hlt
        have Hs : Hid (∀ r, r < k → (K r).length = d ∧ (V r).length = d) := hs rfl
        clear hs h1 h2 hf
        obtain ⟨g, eg⟩ : ∃ g, (K k).length = g := ⟨_, rfl⟩
        obtain ⟨g', eg'⟩ : ∃ g', (V k).length = g' := ⟨_, rfl⟩
        rw [eg] at cx
        rw [eg'] at cy
        have Eg : Hid ((K k).length = g ∧ (V k).length = g') := ⟨eg, eg'⟩
        clear eg eg'
        by_cases e1 : g = d
        · subst e1
          by_cases e2 : g' = g
          · subst e2
            go_wp2
            go_roundw
            case rel =>
              refine ⟨k + 1, true, by omega, by go_num, by simp, trivial, fun _ r hr => ?_⟩
              by_cases e : r = k
              · subst e; exact Eg.out
              · exact Hs.out r (by omega)
            case measure => simp [intOf]; omega
          · have z2 : ((g' : Int) == (g : Int)) = false := by simp; omega
            go_wp2
            go_roundw
            case rel => exact ⟨k + 1, false, by omega, by go_num, by simp, trivial, fun h => by cases h⟩
            case measure => simp [intOf]; omega
        · have z1 : ((g : Int) == (d : Int)) = false := by simp; omega
          go_wp2
          go_roundw
          case rel => exact ⟨k + 1, false, by omega, by go_num, by simp, trivial, fun h => by cases h⟩
          case measure => simp [intOf]; omega
      · exact absurd (fun r hr => hs rfl r (by omega)) hf

theorem shapes_call (a0 : Option Addr) (d c0 : Nat) (a1 : Option Addr) (n c1 : Nat) (A : Nat → Option Addr) (C : Nat → Nat) (K : Nat → List Int) (a2 : Option Addr) (m c2 : Nat) (A' : Nat → Option Addr) (C' : Nat → Nat) (V : Nat → List Int) (w : World)
    (h1 : Grid w a1 n A C K) (h2 : Grid w a2 m A' C' V) :
    Calls Try.prog 23 #[.slice a0 d c0, .slice a1 n c1, .slice a2 m c2] w fun e w' => e = .returned (.bool (fitB d n m K V)) ∧ w' = w := by
  cases hf : fitB d n m K V with
  | true =>
    obtain ⟨hd, hn, rfl, hr⟩ := (fitB_iff ..).1 hf
    exact shapes_yes _ _ _ _ _ _ _ _ _ _ _ _ _ _ _ h1 h2 hd hn hr
  | false => exact shapes_no _ _ _ _ _ _ _ _ _ _ _ _ _ _ _ _ h1 h2 hf

end Go.Proofs.Ythbddbipmoflfaa
