/- Whether keys and values fit: contracts of both sides. -/
import Derived.Test.YthbddbipmoflfaaRows
import Derived.Test.YthbddbipmoflfaaView
import Derived.Test.YthbddbipmoflfaaOwn
import Derived.Test.YthbddbipmoflfaaMean
import Derived.Test.YthbddbipmoflfaaAtPlain
import Derived.WalkKit
import Derived.ProofKit
import Derived.OpenShut
import Derived.Below
import Derived.WalkLawsBesides
import Derived.Deep.QuietTactic
import Derived.BigQuiet
namespace Go.Proofs.Ythbddbipmoflfaa
open Go.ChangeShapes Go.WideShapes Go.ChangeAt Go.RowKit
set_option linter.unusedVariables false

theorem fits_yes (a0 : Option Addr) (d c0 : Nat) (a1 : Option Addr) (n c1 : Nat) (A : Nat → Option Addr) (C : Nat → Nat) (K : Nat → List Int) (a2 : Option Addr) (c2 : Nat) (A' : Nat → Option Addr) (C' : Nat → Nat) (V : Nat → List Int) (w : World)
    (h1 : Grid w a1 n A C K) (h2 : Grid w a2 n A' C' V) (hd : 0 < d) (hn : 0 < n) (hr : ∀ r, r < n → (K r).length = d ∧ (V r).length = d) :
    Calls Try.prog 19 #[.slice a0 d c0, .slice a1 n c1, .slice a2 n c2] w fun e w' => e = .returned (.bool true) ∧ w' = w := by
  have hm := h1.max
  have zd : ((d : Int) == 0) = false := by simp; omega
  have zn : ((n : Int) == 0) = false := by simp; omega
  obtain ⟨x, rfl⟩ := h1.some_ hn
  obtain ⟨y, rfl⟩ := h2.some_ hn
  have c1' := fun k (hk : k < n) => (hr k hk).1 ▸ h1.cell x rfl k hk
  have c2' := fun k (hk : k < n) => (hr k hk).2 ▸ h2.cell y rfl k hk
  clear h1 h2 hr
  go_enter Try.func19, Try.ntmps19
  go_wp2
  go_loopw [25] (fun i wr => ∃ k : Nat, k ≤ n ∧ i = .int .i64 k ∧ wr = w) (fun i _ => n - (intOf i).toNat)
  case atStart => exact ⟨0, Nat.zero_le _, rfl, rfl⟩
  case round =>
    obtain ⟨k, hk, rfl, hw⟩ := hrel
    subst hw
    by_cases hlt : k < n
    · have cx := c1' k hlt
      have cy := c2' k hlt
      clear c1' c2'
      go_wp2
      go_roundw
      case rel => exact ⟨k + 1, by omega, by go_num, trivial⟩
      case measure => simp [intOf]; omega
    · have e : k = n := by omega
      subst e
      go_wp2
      go_ret
      exact ⟨rfl, rfl⟩

end Go.Proofs.Ythbddbipmoflfaa
