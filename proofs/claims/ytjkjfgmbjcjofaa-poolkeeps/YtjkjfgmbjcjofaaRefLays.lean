/- The document's Take, Reserve, Unreserve and Draw: their contracts. -/
import Derived.Test.YtjkjfgmbjcjofaaRows
import Derived.Test.YtjkjfgmbjcjofaaPages
import Derived.Test.YtjkjfgmbjcjofaaView
import Derived.Test.YtjkjfgmbjcjofaaOwn
import Derived.Test.YtjkjfgmbjcjofaaReadsP
import Derived.Test.YtjkjfgmbjcjofaaReadsQ
import Derived.Test.YtjkjfgmbjcjofaaRefPg
import Derived.Test.YtjkjfgmbjcjofaaRefRd
import Derived.Test.YtjkjfgmbjcjofaaLeast
import Derived.Test.YtjkjfgmbjcjofaaLays
import Derived.Test.YtjkjfgmbjcjofaaRefTk
import Derived.WalkKit
import Derived.ProofKit
import Derived.OpenShut
import Derived.Below
import Derived.WalkLawsBesides
import Derived.Deep.QuietTactic
import Derived.BigQuiet
namespace Go.Proofs.Ytjkjfgmbjcjofaa
open Go.ChangeShapes Go.WideShapes Go.ChangeAt Go.RowKit
set_option linter.unusedVariables false

theorem refTakes_call {B m : Nat} {w : World} {b g : Nat} {s : Pl} {r : Nat → Nat} (h : RefAt B w b g s r) (hB : B ≤ w.heap.size) (hG : Good m s) (t : ByteArray) (k : Int) :
    Calls Try.prog 26 #[.pointer (some ⟨b, 0, none⟩), .string t, .int .i64 k] w fun e w' =>
      ∃ a l c, e = .returned (.tuple #[.slice a l c, .int .i64 (takeE s t k)]) ∧ RowI w.heap.size w' a l c (takeR s t k) ∧ (∃ r', RefAt B w' b g (takeS s t k) r') ∧ Off B TR w w' := by
  unfold takeR takeS
  have HP := hidden_ h
  by_cases ht : t.toList = []
  · have e : takeE s t k = 20 := by simp [takeE, ht]
    simp only [e]
    rw [if_neg (by decide), if_neg (by decide)]
    have q := empty_true ht
    clear ht e h hG
    go_enter Try.func26, Try.ntmps26
    go_wp2
    go_ret2
    exact ⟨_, _, _, rfl, RowI.nil _ _, ⟨r, HP.out⟩, Off.refl _ _ _⟩
  · have q := empty_false ht
    by_cases h0 : k < 0
    · have e : takeE s t k = 20 := by simp [takeE, h0]
      simp only [e]
      rw [if_neg (by decide), if_neg (by decide)]
      clear ht e h hG
      go_enter Try.func26, Try.ntmps26
      go_wp2
      go_ret2
      exact ⟨_, _, _, rfl, RowI.nil _ _, ⟨r, HP.out⟩, Off.refl _ _ _⟩
    · have k36 := fun m => refFree_call (h.drewN m) hG.n1
      have fl := freeTo_le s.pg s.n
      have n1 := hG.n1
      have a0 := hG.a0
      have fw := hG.few
      have t1 := h.t1
      by_cases h1 : (freeTo s.pg s.n : Int) - s.aside < k
      · have e : takeE s t k = 6 := by simp [takeE, ht, h0, h1]
        simp only [e]
        rw [if_neg (by decide), if_neg (by decide)]
        obtain ⟨F, eF⟩ : ∃ F, freeTo s.pg s.n = F := ⟨_, rfl⟩
        obtain ⟨A, eA⟩ : ∃ A, s.aside = A := ⟨_, rfl⟩
        rw [eF, eA] at h1
        rw [eF] at k36 fl
        rw [eA] at t1 a0 fw
        have fl' : F ≤ 256 := by omega
        clear ht e h hG eF eA n1 fl
        go_enter Try.func26, Try.ntmps26
        go_wp2
        go_quiet (first | (go_at_call 36; exact Calls.quiet_of_same (k36 _)))
        go_wp2
        go_ret2
        exact ⟨_, _, _, rfl, RowI.nil _ _, ⟨r, HP.out.drewN _⟩, (Off.refl _ _ _).drewN _⟩
      · have e : takeE s t k = 0 := by simp [takeE, ht, h0, h1]
        simp only [e]
        rw [if_pos trivial, if_pos trivial]
        obtain ⟨K, rfl⟩ : ∃ K : Nat, k = (K : Int) := ⟨k.toNat, by omega⟩
        have k43 := fun m' => refTake_call (h.drewN m') hB n1 t K (by omega)
        rw [Int.toNat_natCast]
        obtain ⟨R, eR⟩ : ∃ R, tk s.pg K s.n = R := ⟨_, rfl⟩
        rw [eR] at k43 ⊢
        obtain ⟨L, eL⟩ : ∃ L, R.length = L := ⟨_, rfl⟩
        rw [eL] at k43
        obtain ⟨F, eF⟩ : ∃ F, freeTo s.pg s.n = F := ⟨_, rfl⟩
        obtain ⟨A, eA⟩ : ∃ A, s.aside = A := ⟨_, rfl⟩
        rw [eF, eA] at h1
        rw [eF] at k36 fl
        rw [eA] at t1 a0 fw
        have fl' : F ≤ 256 := by omega
        clear ht e h hG eF eA n1 fl eR eL
        go_enter Try.func26, Try.ntmps26
        go_wp2
        go_quiet (first | (go_at_call 36; exact Calls.quiet_of_same (k36 _)))
        go_wp2_with (first
          | (go_at_call 43; refine (k43 _).mono ?_; rintro e W2 ⟨⟨a, c, rfl, hr⟩, hp, ho⟩))
        go_ret2
        exact ⟨_, _, _, rfl, hr, hp, Off.of_drawn ho rfl⟩

theorem refReserve_call {B m : Nat} {w : World} {b g : Nat} {s : Pl} {r : Nat → Nat} (h : RefAt B w b g s r) (hG : Good m s) (k : Int) :
    Calls Try.prog 28 #[.pointer (some ⟨b, 0, none⟩), .int .i64 k] w fun e w' => e = .returned (.int .i64 (resE s k)) ∧ RefAt B w' b g (resS s k) r ∧ Off B TR w w' := by
  unfold resS
  have HP := hidden_ h
  by_cases h0 : k < 0
  · have e : resE s k = 20 := by simp [resE, h0]
    simp only [e]
    rw [if_neg (by decide)]
    clear e h hG
    go_enter Try.func28, Try.ntmps28
    go_wp2
    go_ret
    exact ⟨rfl, HP.out, Off.refl _ _ _⟩
  · have k36 := fun m => refFree_call (h.drewN m) hG.n1
    have fl := freeTo_le s.pg s.n
    have n1 := hG.n1
    have a0 := hG.a0
    have fw := hG.few
    have t1 := h.t1
    by_cases h1 : (freeTo s.pg s.n : Int) - s.aside < k
    · have e : resE s k = 6 := by simp [resE, h0, h1]
      simp only [e]
      rw [if_neg (by decide)]
      obtain ⟨F, eF⟩ : ∃ F, freeTo s.pg s.n = F := ⟨_, rfl⟩
      obtain ⟨A, eA⟩ : ∃ A, s.aside = A := ⟨_, rfl⟩
      rw [eF, eA] at h1
      rw [eF] at k36 fl
      rw [eA] at t1 a0 fw
      have fl' : F ≤ 256 := by omega
      clear e h hG eF eA n1 fl
      go_enter Try.func28, Try.ntmps28
      go_wp2
      go_quiet (first | (go_at_call 36; exact Calls.quiet_of_same (k36 _)))
      go_wp2
      go_ret
      exact ⟨rfl, HP.out.drewN _, (Off.refl _ _ _).drewN _⟩
    · have e : resE s k = 0 := by simp [resE, h0, h1]
      simp only [e]
      rw [if_pos trivial]
      have k' : k ≤ 256 := by omega
      have q2 := h.top.open_ 1
      obtain ⟨F, eF⟩ : ∃ F, freeTo s.pg s.n = F := ⟨_, rfl⟩
      obtain ⟨A, eA⟩ : ∃ A, s.aside = A := ⟨_, rfl⟩
      rw [eF, eA] at h1
      rw [eF] at k36 fl
      rw [eA] at t1 a0 fw ⊢
      have fl' : F ≤ 256 := by omega
      have HA := hidden_ (h.setAside (A + k))
      clear e h hG eF eA n1 fl
      go_enter Try.func28, Try.ntmps28
      go_wp2
      go_quiet (first | (go_at_call 36; exact Calls.quiet_of_same (k36 _)))
      go_wp2
      go_ret
      exact ⟨rfl, HA.out.1.drewN _, HA.out.2.drewN _⟩

theorem refUnreserve_call {B m : Nat} {w : World} {b g : Nat} {s : Pl} {r : Nat → Nat} (h : RefAt B w b g s r) (hG : Good m s) (k : Int) :
    Calls Try.prog 29 #[.pointer (some ⟨b, 0, none⟩), .int .i64 k] w fun e w' => e = .returned (.int .i64 (unE s k)) ∧ RefAt B w' b g (unS s k) r ∧ Off B TR w w' := by
  unfold unS
  have HP := hidden_ h
  have q1 := h.t1
  have q2 := h.top.open_ 1
  have a0 := hG.a0
  have fw := hG.few
  by_cases h0 : k < 0
  · have e : unE s k = 20 := by simp [unE, h0]
    simp only [e]
    rw [if_neg (by decide)]
    clear e h hG
    go_enter Try.func29, Try.ntmps29
    go_wp2
    go_ret
    exact ⟨rfl, HP.out, Off.refl _ _ _⟩
  · by_cases h1 : s.aside < k
    · have e : unE s k = 20 := by simp [unE, h1]
      simp only [e]
      rw [if_neg (by decide)]
      obtain ⟨A, eA⟩ : ∃ A, s.aside = A := ⟨_, rfl⟩
      rw [eA] at a0 fw q1 h1
      clear e h hG eA
      go_enter Try.func29, Try.ntmps29
      go_wp2
      go_ret
      exact ⟨rfl, HP.out, Off.refl _ _ _⟩
    · have e : unE s k = 0 := by simp [unE, h0, h1]
      simp only [e]
      rw [if_pos trivial]
      obtain ⟨A, eA⟩ : ∃ A, s.aside = A := ⟨_, rfl⟩
      rw [eA] at a0 fw q1 h1 ⊢
      clear e h hG eA
      go_enter Try.func29, Try.ntmps29
      go_wp2
      go_ret
      obtain ⟨x, y⟩ := HP.out.setAside (A - k)
      exact ⟨rfl, x, y⟩

theorem refDraw_call {B m : Nat} {w : World} {b g : Nat} {s : Pl} {r : Nat → Nat} (h : RefAt B w b g s r) (hB : B ≤ w.heap.size) (hG : Good m s) (t : ByteArray) (k : Int) :
    Calls Try.prog 30 #[.pointer (some ⟨b, 0, none⟩), .string t, .int .i64 k] w fun e w' =>
      ∃ a l c, e = .returned (.tuple #[.slice a l c, .int .i64 (drawE s t k)]) ∧ RowI w.heap.size w' a l c (drawR s t k) ∧ (∃ r', RefAt B w' b g (drawS s t k) r') ∧ Off B TR w w' := by
  unfold drawR drawS
  have HP := hidden_ h
  have q1 := h.t1
  have q2 := h.top.open_ 1
  have a0 := hG.a0
  have fw := hG.few
  by_cases ht : t.toList = []
  · have e : drawE s t k = 20 := by simp [drawE, ht]
    simp only [e]
    rw [if_neg (by decide), if_neg (by decide)]
    have q := empty_true ht
    clear ht e h hG
    go_enter Try.func30, Try.ntmps30
    go_wp2
    go_ret2
    exact ⟨_, _, _, rfl, RowI.nil _ _, ⟨r, HP.out⟩, Off.refl _ _ _⟩
  · have q := empty_false ht
    by_cases h0 : k < 0
    · have e : drawE s t k = 20 := by simp [drawE, h0]
      simp only [e]
      rw [if_neg (by decide), if_neg (by decide)]
      clear ht e h hG
      go_enter Try.func30, Try.ntmps30
      go_wp2
      go_ret2
      exact ⟨_, _, _, rfl, RowI.nil _ _, ⟨r, HP.out⟩, Off.refl _ _ _⟩
    · by_cases h1 : s.aside < k
      · have e : drawE s t k = 6 := by simp [drawE, ht, h0, h1]
        simp only [e]
        rw [if_neg (by decide), if_neg (by decide)]
        obtain ⟨A, eA⟩ : ∃ A, s.aside = A := ⟨_, rfl⟩
        rw [eA] at a0 fw q1 h1
        clear ht e h hG eA
        go_enter Try.func30, Try.ntmps30
        go_wp2
        go_ret2
        first
          | exact ⟨_, _, _, rfl, RowI.nil _ _, ⟨r, HP.out⟩, Off.refl _ _ _⟩
          | exact ⟨_, _, ⟨_, rfl⟩, RowI.nil _ _, ⟨r, HP.out⟩, Off.refl _ _ _⟩
      · have e : drawE s t k = 0 := by simp [drawE, ht, h0, h1]
        simp only [e]
        rw [if_pos trivial, if_pos trivial]
        obtain ⟨K, rfl⟩ : ∃ K : Nat, k = (K : Int) := ⟨k.toNat, by omega⟩
        have hs := h.setAside (s.aside - (K : Int))
        have k43 := refTake_call hs.1 (Nat.le_trans hB hs.2.size) hG.n1 t K (by omega)
        rw [Int.toNat_natCast]
        have HO := hidden_ hs.2
        simp only at k43
        obtain ⟨R, eR⟩ : ∃ R, tk s.pg K s.n = R := ⟨_, rfl⟩
        rw [eR] at k43 ⊢
        obtain ⟨L, eL⟩ : ∃ L, R.length = L := ⟨_, rfl⟩
        rw [eL] at k43
        obtain ⟨A, eA⟩ : ∃ A, s.aside = A := ⟨_, rfl⟩
        rw [eA] at a0 fw q1 h1 k43 HO ⊢
        clear ht e h hG eR eL eA hs
        go_enter Try.func30, Try.ntmps30
        go_wp2_with (first
          | (go_at_call 43; refine k43.mono ?_; rintro e W2 ⟨⟨a, c, rfl, hr⟩, hp, ho⟩))
        go_ret2
        exact ⟨_, _, _, rfl, hr.mono HO.out.size, hp, HO.out.trans ho⟩

end Go.Proofs.Ytjkjfgmbjcjofaa
