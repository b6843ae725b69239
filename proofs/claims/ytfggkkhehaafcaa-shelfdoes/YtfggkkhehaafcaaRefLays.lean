/- The document's Take, Reserve, Unreserve and Draw: their contracts. -/
import Derived.Test.YtfggkkhehaafcaaRows
import Derived.Test.YtfggkkhehaafcaaPages
import Derived.Test.YtfggkkhehaafcaaView
import Derived.Test.YtfggkkhehaafcaaOwn
import Derived.Test.YtfggkkhehaafcaaReadsP
import Derived.Test.YtfggkkhehaafcaaReadsQ
import Derived.Test.YtfggkkhehaafcaaRefPg
import Derived.Test.YtfggkkhehaafcaaRefRd
import Derived.Test.YtfggkkhehaafcaaLeast
import Derived.Test.YtfggkkhehaafcaaLays
import Derived.Test.YtfggkkhehaafcaaRefTk
import Derived.WalkKit
import Derived.ProofKit
import Derived.OpenShut
import Derived.Below
import Derived.WalkLawsBesides
import Derived.Deep.QuietTactic
import Derived.BigQuiet
namespace Go.Proofs.Ytfggkkhehaafcaa
open Go.ChangeShapes Go.WideShapes Go.ChangeAt Go.RowKit
set_option linter.unusedVariables false

theorem refTakes_call {B m : Nat} {w : World} {b g : Nat} {s : Pl} {r : Nat → Nat} (h : RefAt B w b g s r) (hB : B ≤ w.heap.size) (hG : Good m s) (t : ByteArray) (k : Int) :
    Calls Try.prog 35 #[.pointer (some ⟨b, 0, none⟩), .string t, .int .i64 k] w fun e w' =>
      ∃ a l c, e = .returned (.tuple #[.slice a l c, .int .i64 (takeE s t k)]) ∧ RowI w.heap.size w' a l c (takeR s t k) ∧ (∃ r', RefAt B w' b g (takeS s t k) r') ∧ Off B TR w w' := by
  unfold takeR takeS
  have HP := hidden_ h
  by_cases ht : t.toList = []
  · have e : takeE s t k = 20 := by simp [takeE, ht]
    simp only [e]
    rw [if_neg (by decide), if_neg (by decide)]
    have q := empty_true ht
    clear ht e h hG
    go_enter Try.func35, Try.ntmps35
    go_wp2
    go_ret2
    exact ⟨_, _, _, rfl, RowI.nil _ _, ⟨r, HP.out⟩, Off.refl _ _ _⟩
  · have q := empty_false ht
    by_cases h0 : k < 0
    · have e : takeE s t k = 20 := by simp [takeE, h0]
      simp only [e]
      rw [if_neg (by decide), if_neg (by decide)]
      clear ht e h hG
      go_enter Try.func35, Try.ntmps35
      go_wp2
      go_ret2
      exact ⟨_, _, _, rfl, RowI.nil _ _, ⟨r, HP.out⟩, Off.refl _ _ _⟩
    · have k36 := fun m => refFree_call (h.drewN m) hG.n1
      have fl := freeTo_le s.pg s.n
      have n1 := hG.n1
      have a0 := hG.a0
      have fw := hG.few
      have t1 := h.t1
      by_cases h1 : (freeTo s.pg s.n : Int) - s.aside < k
      · have e : takeE s t k = 6 := by simp [takeE, ht, h0, h1]
        simp only [e]
        rw [if_neg (by decide), if_neg (by decide)]
        obtain ⟨F, eF⟩ : ∃ F, freeTo s.pg s.n = F := ⟨_, rfl⟩
        obtain ⟨A, eA⟩ : ∃ A, s.aside = A := ⟨_, rfl⟩
        rw [eF, eA] at h1
        rw [eF] at k36 fl
        rw [eA] at t1 a0 fw
        have fl' : F ≤ 256 := by omega
        clear ht e h hG eF eA n1 fl
        go_enter Try.func35, Try.ntmps35
        go_wp2
        go_quiet (first | (go_at_call 50; exact Calls.quiet_of_same (k36 _)))
        go_wp2
        go_ret2
        exact ⟨_, _, _, rfl, RowI.nil _ _, ⟨r, HP.out.drewN _⟩, (Off.refl _ _ _).drewN _⟩
      · have e : takeE s t k = 0 := by simp [takeE, ht, h0, h1]
        simp only [e]
        rw [if_pos trivial, if_pos trivial]
        obtain ⟨K, rfl⟩ : ∃ K : Nat, k = (K : Int) := ⟨k.toNat, by omega⟩
        have k43 := fun m' => refTake_call (h.drewN m') hB n1 t K (by omega)
        rw [Int.toNat_natCast]
        obtain ⟨R, eR⟩ : ∃ R, tk s.pg K s.n = R := ⟨_, rfl⟩
        rw [eR] at k43 ⊢
        obtain ⟨L, eL⟩ : ∃ L, R.length = L := ⟨_, rfl⟩
        rw [eL] at k43
        obtain ⟨F, eF⟩ : ∃ F, freeTo s.pg s.n = F := ⟨_, rfl⟩
        obtain ⟨A, eA⟩ : ∃ A, s.aside = A := ⟨_, rfl⟩
        rw [eF, eA] at h1
        rw [eF] at k36 fl
        rw [eA] at t1 a0 fw
        have fl' : F ≤ 256 := by omega
        clear ht e h hG eF eA n1 fl eR eL
        go_enter Try.func35, Try.ntmps35
        go_wp2
        go_quiet (first | (go_at_call 50; exact Calls.quiet_of_same (k36 _)))
        go_wp2_with (first
          | (go_at_call 67; refine (k43 _).mono ?_; rintro e W2 ⟨⟨a, c, rfl, hr⟩, hp, ho⟩))
        go_ret2
        exact ⟨_, _, _, rfl, hr, hp, Off.of_drawn ho rfl⟩

end Go.Proofs.Ytfggkkhehaafcaa
