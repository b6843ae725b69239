/- Whether both pools tell the same: the contract of the call. -/
import Derived.Test.YtgjjeggopeppfaaRows
import Derived.Test.YtgjjeggopeppfaaPages
import Derived.Test.YtgjjeggopeppfaaReadsB
import Derived.Test.YtgjjeggopeppfaaRefA
import Derived.Test.YtgjjeggopeppfaaLays
import Derived.WalkKit
import Derived.ProofKit
import Derived.OpenShut
import Derived.Below
import Derived.WalkLawsBesides
import Derived.Deep.QuietTactic
import Derived.BigQuiet
namespace Go.Proofs.Ytgjjeggopeppfaa
open Go.ChangeShapes Go.WideShapes Go.ChangeAt Go.RowKit
set_option linter.unusedVariables false

theorem samePools_call {B B' m : Nat} {w : World} {b g b' g' : Nat} {s : Pl} {r : Nat → Nat} (h : PoolAt B w b g s) (h' : RefAt B' w b' g' s r) (hG : Good m s) :
    Calls Try.prog 21 #[.pointer (some ⟨b, 0, none⟩), .pointer (some ⟨b', 0, none⟩)] w fun e w' => e = .returned (.bool true) ∧ ∃ m, w' = w.drewN m := by
  have n1 := hG.n1
  have k22 := sizes_call h n1
  have k36 := fun m => refFree_call (h'.drewN m) n1
  have t0 := fun m => (h'.drewN m).t0
  have t1 := fun m => (h'.drewN m).t1
  have ks := hidden_ fun (m : Nat) (z : Int) => And.intro (owners_call (h.drewN m) n1 z) (And.intro (refOwners_call (h'.drewN m) n1 hG.ow0 z) (And.intro (tag_call (h.drewN m) n1 z) (refTag_call (h'.drewN m) n1 hG.ow0 z)))
  have HS := hidden_ t0
  obtain ⟨F, eF⟩ : ∃ F, freeTo s.pg s.n = F := ⟨_, rfl⟩
  simp only [eF] at k22 k36
  obtain ⟨A, eA⟩ : ∃ A, s.aside = A := ⟨_, rfl⟩
  simp only [eA] at k22 t1
  obtain ⟨n, eN⟩ : ∃ n, s.n = n := ⟨_, rfl⟩
  rw [eN] at n1
  simp only [eN] at k22 t0 HS
  clear eF eA eN h h' hG
  go_enter Try.func21, Try.ntmps21
  go_wp2_with (first
    | (go_at_call 27; refine k22.mono ?_; rintro e W1 ⟨rfl, m1, h1⟩; have HW := hidden_ h1; replace k36 := k36 m1; replace t0 := t0 m1; replace t1 := t1 m1; rw [← h1] at k36 t0 t1; clear h1 k22)
    | (go_at_call 48; refine k36.mono ?_; rintro e W2 ⟨rfl, h2⟩; obtain rfl := h2.symm; clear k36))
  go_loopw [8] (fun i wr => ∃ k : Nat, k ≤ n + 2 ∧ i = .int .i64 ((k : Int) - 1) ∧ wr = W1) (fun i _ => (n : Int).toNat + 2 - (intOf i + 1).toNat)
  case atStart => exact ⟨0, Nat.zero_le _, rfl, rfl⟩
  case round =>
    obtain ⟨k, hk, rfl, hw⟩ := hrel
    subst hw
    obtain ⟨Z, eZ⟩ : ∃ Z, (k : Int) - 1 = Z := ⟨_, rfl⟩
    have HZ := hidden_ eZ
    have z0 : -1 ≤ Z := by omega
    have z1 : Z ≤ n + 1 := by omega
    rw [eZ]
    by_cases hlt : k < n + 2
    · have hlt' : Z ≤ (n : Int) := by omega
      obtain ⟨k23, k37, k24, k38⟩ := ks.out m1 Z
      rw [← HW.out] at k23 k37 k24 k38
      obtain ⟨O, eO⟩ : ∃ O, owZ s Z = O := ⟨_, rfl⟩
      obtain ⟨T, eT⟩ : ∃ T, tagZ s Z = T := ⟨_, rfl⟩
      rw [eO] at k23 k37
      rw [eT] at k24 k38
      clear eO eT eZ
      go_wp2_with (first
        | (go_at_call 49; refine k23.mono ?_; rintro e W2 ⟨rfl, h2⟩; obtain rfl := h2.symm; clear k23)
        | (go_at_call 50; refine k37.mono ?_; rintro e W2 ⟨rfl, h2⟩; obtain rfl := h2.symm; clear k37)
        | (go_at_call 51; refine k24.mono ?_; rintro e W2 ⟨rfl, h2⟩; obtain rfl := h2.symm; clear k24)
        | (go_at_call 52; refine k38.mono ?_; rintro e W2 ⟨rfl, h2⟩; obtain rfl := h2.symm; clear k38))
      go_roundw
      case rel => exact ⟨k + 1, by omega, by have := HZ.out; congr 1; omega, trivial⟩
      case measure => have := HZ.out; simp [intOf]; omega
    · have hlt' : (n : Int) < Z := by omega
      clear eZ ks
      go_wp2
      go_ret
      exact ⟨rfl, m1, HW.out⟩

end Go.Proofs.Ytgjjeggopeppfaa
