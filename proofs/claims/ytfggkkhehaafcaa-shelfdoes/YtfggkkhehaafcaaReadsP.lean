/- The program's functions that only read a pool: their contracts. -/
import Derived.Test.YtfggkkhehaafcaaRows
import Derived.Test.YtfggkkhehaafcaaPages
import Derived.WalkKit
import Derived.ProofKit
import Derived.OpenShut
import Derived.Below
import Derived.WalkLawsBesides
import Derived.Deep.QuietTactic
import Derived.BigQuiet
namespace Go.Proofs.Ytfggkkhehaafcaa
open Go.ChangeShapes Go.WideShapes Go.ChangeAt Go.RowKit
set_option linter.unusedVariables false

theorem add_at (g o j : Nat) : (⟨g, o, none⟩ : Addr).add j = ⟨g, o + j, none⟩ := Addr.add_mid g o j
theorem add_zero_at (g j : Nat) : (⟨g, 0, none⟩ : Addr).add j = ⟨g, j, none⟩ := by rw [add_at, Nat.zero_add]

theorem free_call {B : Nat} {w : World} {b g : Nat} {s : Pl} (h : PoolAt B w b g s) (hn : s.n ≤ 256) :
    Calls Try.prog 58 #[.pointer (some ⟨b, 0, none⟩)] w fun e w' => e = .returned (.int .i64 (freeTo s.pg s.n)) ∧ w' = w := by
  obtain ⟨n, p, A⟩ := s
  have t0 := h.t0
  have fl := fun i => freeTo_le p i
  have Hp := hidden_ h.pg
  clear h
  simp only at t0 hn Hp ⊢
  obtain ⟨X, eX⟩ : ∃ X : Addr, X = ⟨g, 0, none⟩ := ⟨_, rfl⟩
  rw [← eX] at t0
  have HX := hidden_ eX
  clear eX
  have Hf := hidden_ fl
  clear fl
  go_enter Try.func58, Try.ntmps58
  go_wp2
  go_loopw [3, 10] (fun v3 i wr => ∃ k : Nat, k ≤ n ∧ i = .int .i64 k ∧ v3 = .int .i64 (freeTo p k) ∧ wr = w) (fun _ i _ => n - (intOf i).toNat)
  case atStart => exact ⟨0, Nat.zero_le _, rfl, rfl, rfl⟩
  case round =>
    obtain ⟨k, hk, rfl, rfl, hw⟩ := hrel
    subst hw
    have f1 := Hf.out k
    obtain ⟨F, eF⟩ : ∃ F, freeTo p k = F := ⟨_, rfl⟩
    rw [eF] at f1 ⊢
    by_cases hlt : k < n
    · have c1 := (Hp.out k hlt).c1
      obtain ⟨P, eP⟩ : ∃ P, X.add (k * 34) = P := ⟨_, rfl⟩
      have e' : P = ⟨g, k * 34, none⟩ := by rw [← eP, HX.out, add_zero_at]
      have c1' : wr.cell? ⟨P.block, P.off + 1, none⟩ = some (.int .i64 (p k).ow) := by rw [e']; exact c1
      clear c1 e'
      obtain ⟨O, eO⟩ : ∃ O, (p k).ow = O := ⟨_, rfl⟩
      rw [eO] at c1'
      by_cases hO : O = 0
      · subst hO
        have HF := hidden_ (show freeTo p (k + 1) = F + 1 by simp only [freeTo]; rw [if_pos eO, eF])
        clear eO eF
        go_wp2
        go_roundw
        case rel => exact ⟨k + 1, by omega, by go_num, by rw [HF.out]; go_num, trivial⟩
        case measure => simp [intOf]; omega
      · have HF := hidden_ (show freeTo p (k + 1) = F by simp only [freeTo]; rw [if_neg (by rw [eO]; exact hO), eF]; rfl)
        clear eO eF
        go_wp2
        go_roundw
        case rel => exact ⟨k + 1, by omega, by go_num, by rw [HF.out], trivial⟩
        case measure => simp [intOf]; omega
    · have e : k = n := by omega
      subst e
      have HF := hidden_ eF
      clear eF
      go_wp2
      go_ret
      exact ⟨by rw [HF.out]; rfl, rfl⟩

theorem atHand_call {B : Nat} {w : World} {b g : Nat} {s : Pl} (h : PoolAt B w b g s) (hn : s.n ≤ 256) (a0 : 0 ≤ s.aside) (a1 : s.aside ≤ 256) :
    Calls Try.prog 65 #[.pointer (some ⟨b, 0, none⟩)] w fun e w' => e = .returned (.int .i64 ((freeTo s.pg s.n : Int) - s.aside)) ∧ ∃ m, w' = w.drewN m := by
  have t1 := h.t1
  have k := fun m => free_call (h.drewN m) hn
  have fl := freeTo_le s.pg s.n
  obtain ⟨F, eF⟩ : ∃ F, freeTo s.pg s.n = F := ⟨_, rfl⟩
  obtain ⟨A, eA⟩ : ∃ A, s.aside = A := ⟨_, rfl⟩
  rw [eF] at fl k ⊢
  rw [eA] at t1 a0 a1 ⊢
  clear eF eA h
  go_enter Try.func65, Try.ntmps65
  go_wp2
  go_quiet (first | (go_at_call 58; exact Calls.quiet_of_same (k _)))
  go_wp2
  go_ret
  exact ⟨rfl, _, rfl⟩

/-- is a page there that has owners? -/
def usedB (s : Pl) (z : Int) : Bool := decide (0 ≤ z ∧ z < (s.n : Int) ∧ (s.pg z.toNat).ow ≠ 0)

def ownA (g : Nat) (s : Pl) (z : Int) : Option Addr := if usedB s z = true then some ⟨g, z.toNat * 34, none⟩ else none

theorem owned_call {B : Nat} {w : World} {b g : Nat} {s : Pl} (h : PoolAt B w b g s) (hn : s.n ≤ 256) (z : Int) :
    Calls Try.prog 69 #[.pointer (some ⟨b, 0, none⟩), .int .i64 z] w fun e w' => e = .returned (.pointer (ownA g s z)) ∧ w' = w := by
  have t0 := h.t0
  have Hp := hidden_ h.pg
  have hu := hidden_ (show ownA g s z = if usedB s z = true then some ⟨g, z.toNat * 34, none⟩ else none from rfl)
  obtain ⟨U, eU⟩ : ∃ U, ownA g s z = U := ⟨_, rfl⟩
  rw [eU] at hu ⊢
  clear eU h
  obtain ⟨n, eN⟩ : ∃ n, s.n = n := ⟨_, rfl⟩
  rw [eN] at t0 hn
  have HN := hidden_ eN
  clear eN
  obtain ⟨X, eX⟩ : ∃ X : Addr, X = ⟨g, 0, none⟩ := ⟨_, rfl⟩
  rw [← eX] at t0
  have HX := hidden_ eX
  clear eX
  by_cases h0 : z < 0
  · have hU := hu.out
    rw [if_neg (by simp [usedB]; omega)] at hU
    subst hU
    clear hu
    go_enter Try.func69, Try.ntmps69
    go_wp2
    go_ret
    exact ⟨rfl, rfl⟩
  · by_cases h1 : (n : Int) ≤ z
    · have hU := hu.out
      rw [if_neg (by simp [usedB, HN.out]; omega)] at hU
      subst hU
      clear hu
      go_enter Try.func69, Try.ntmps69
      go_wp2
      go_ret
      exact ⟨rfl, rfl⟩
    · obtain ⟨i, rfl⟩ : ∃ i : Nat, z = (i : Int) := ⟨z.toNat, by omega⟩
      have hi : i < n := by omega
      have c1 := (Hp.out i (by rw [HN.out]; exact hi)).c1
      obtain ⟨P, eP⟩ : ∃ P, X.add (i * 34) = P := ⟨_, rfl⟩
      have e' : P = ⟨g, i * 34, none⟩ := by rw [← eP, HX.out, add_zero_at]
      have c1' : w.cell? ⟨P.block, P.off + 1, none⟩ = some (.int .i64 (s.pg i).ow) := by rw [e']; exact c1
      have He := hidden_ e'
      clear c1 e'
      have hU := hidden_ hu.out
      clear hu
      obtain ⟨O, eO⟩ : ∃ O, (s.pg i).ow = O := ⟨_, rfl⟩
      rw [eO] at c1'
      by_cases hO : O = 0
      · have hU' : U = none := by rw [hU.out, if_neg (by simp [usedB, eO, hO])]
        clear hU
        subst hO hU'
        clear eO
        go_enter Try.func69, Try.ntmps69
        go_wp2
        go_ret
        exact ⟨rfl, rfl⟩
      · have hU' : U = some P := by rw [hU.out, if_pos (by simp [usedB, eO, hO, HN.out, hi]), He.out]; rfl
        clear hU
        subst hU'
        clear eO
        go_enter Try.func69, Try.ntmps69
        go_wp2
        go_ret
        exact ⟨rfl, rfl⟩

end Go.Proofs.Ytfggkkhehaafcaa
