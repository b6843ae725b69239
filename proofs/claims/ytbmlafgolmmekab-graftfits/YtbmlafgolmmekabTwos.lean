/- What a reader's Two and End give back, the program's and the document's: contracts of the calls. -/
import Derived.Test.YtbmlafgolmmekabRows
import Derived.Test.YtbmlafgolmmekabView
import Derived.Test.YtbmlafgolmmekabOwn
import Derived.Test.YtbmlafgolmmekabTexts
import Derived.Test.YtbmlafgolmmekabSums
import Derived.Test.YtbmlafgolmmekabSeals
import Derived.Test.YtbmlafgolmmekabOpens
import Derived.Test.YtbmlafgolmmekabReader
import Derived.WalkKit
import Derived.ProofKit
import Derived.OpenShut
import Derived.Below
import Derived.WalkLawsBesides
import Derived.Deep.QuietTactic
import Derived.BigQuiet
namespace Go.Proofs.Ytbmlafgolmmekab
open Go.ChangeShapes Go.WideShapes Go.ChangeAt Go.RowKit
set_option linter.unusedVariables false

/-- what Two answers, what is left behind it, and the error -/
def twoV (s : ByteArray) (e : Int) : Int := if e ≠ 0 ∨ s.size < 2 then 0 else byteZ s 0 + 256 * byteZ s 1
def twoS (s : ByteArray) (e : Int) : ByteArray := if e ≠ 0 ∨ s.size < 2 then s else s.extract 2 s.size
def twoE (s : ByteArray) (e : Int) : Int := if e ≠ 0 then e else if s.size < 2 then 22 else 0
def endV (s : ByteArray) (e : Int) : Int := if e = 0 ∧ 0 < s.size then 23 else e

theorem byteZ_extract (s : ByteArray) (n k : Nat) (hn : n ≤ s.size) (hk : k < n) : byteZ (s.extract 0 n) k = byteZ s k := by
  have h : k < (s.extract 0 n).size := by rw [ByteArray.size_extract]; omega
  unfold byteZ
  rw [dif_pos h, dif_pos (by omega), ByteArray.getElem_extract]
  simp

variable {t : TypeId} {w w' : World} {b : Nat} {s : ByteArray} {e : Int}

theorem two_bad (h : Rd 81 w b s e) (he : e ≠ 0) : Calls Try.prog 38 #[.pointer (some ⟨b, 0, none⟩)] w fun r w' => r = .returned (.int .i64 0) ∧ w' = w := by
  have k := take_bad h he 2
  go_enter Try.func38, Try.ntmps38
  go_wp2_with (go_at_call 45; refine k.mono ?_; rintro e w' ⟨rfl, hw⟩; obtain rfl := hw.symm)
  go_ret
  exact ⟨rfl, rfl⟩
theorem two_few (h : Rd 81 w b s 0) (hs : s.size < 2) : Calls Try.prog 38 #[.pointer (some ⟨b, 0, none⟩)] w fun r w' => r = .returned (.int .i64 0) ∧ w' = w.setCell ⟨b, 1, none⟩ (.int .i64 22) := by
  have k := take_few h 2 (by omega)
  go_enter Try.func38, Try.ntmps38
  go_wp2_with (go_at_call 45; refine k.mono ?_; rintro e w' ⟨rfl, hw⟩; subst hw)
  go_ret
  exact ⟨rfl, rfl⟩
theorem two_ok (h : Rd 81 w b s 0) (hs : 2 ≤ s.size) : Calls Try.prog 38 #[.pointer (some ⟨b, 0, none⟩)] w fun r w' => r = .returned (.int .i64 (byteZ s 0 + 256 * byteZ s 1)) ∧ ∃ m, w' = (w.setCell ⟨b, 0, none⟩ (.string (s.extract 2 s.size))).drewN m := by
  have k := take_ok h 2 hs
  have z0 := byteZ_extract s 2 0 hs (by omega)
  have z1 := byteZ_extract s 2 1 hs (by omega)
  have hA : (s.extract 0 2).size = 2 := by rw [ByteArray.size_extract]; omega
  obtain ⟨A, eA⟩ : ∃ A, s.extract 0 2 = A := ⟨_, rfl⟩
  obtain ⟨B, eB⟩ : ∃ B, s.extract 2 s.size = B := ⟨_, rfl⟩
  rw [eA, eB] at k
  rw [eA] at z0 z1 hA
  rw [eB]
  have g0 := byteZ_at A 0 (by omega)
  have g1 := byteZ_at A 1 (by omega)
  have l0 := byteZ_lt s 0
  have l1 := byteZ_lt s 1
  obtain ⟨X, eX⟩ : ∃ X, byteZ s 0 = X := ⟨_, rfl⟩
  obtain ⟨Y, eY⟩ : ∃ Y, byteZ s 1 = Y := ⟨_, rfl⟩
  rw [z0, eX] at g0
  rw [z1, eY] at g1
  rw [eX] at l0 ⊢
  rw [eY] at l1 ⊢
  clear z0 z1 eX eY eA eB
  go_enter Try.func38, Try.ntmps38
  go_wp2_with (go_at_call 45; refine k.mono ?_; rintro e w' ⟨rfl, hw⟩; have Hw : Hid (w' = w.setCell ⟨b, 0, none⟩ (.string B)) := hw; clear hw)
  go_quiet (fail)
  go_wp2
  go_ret
  exact ⟨by show Ending.returned (Value.int .i64 ((X : Int) + (Y : Int) * 256)) = _; rw [Int.mul_comm], nq, by rw [Hw.out]⟩

theorem two_reader (h : Rd 81 w b s e) : Calls Try.prog 38 #[.pointer (some ⟨b, 0, none⟩)] w fun r w' => r = .returned (.int .i64 (twoV s e)) ∧ Rd 81 w' b (twoS s e) (twoE s e) ∧ Only b w w' := by
  by_cases he : e = 0
  · subst he
    by_cases hs : s.size < 2
    · have e1 : twoV s 0 = 0 := by unfold twoV; rw [if_pos (.inr hs)]
      have e2 : twoS s 0 = s := by unfold twoS; rw [if_pos (.inr hs)]
      have e3 : twoE s 0 = 22 := by unfold twoE; rw [if_neg (by simp), if_pos hs]
      rw [e1, e2, e3]
      exact (two_few h hs).mono fun r w' ⟨hr, hw⟩ => ⟨hr, hw ▸ h.set1 22, hw ▸ Only.set _ _ _ _⟩
    · have e1 : twoV s 0 = byteZ s 0 + 256 * byteZ s 1 := by unfold twoV; rw [if_neg (by simp; omega)]
      have e2 : twoS s 0 = s.extract 2 s.size := by unfold twoS; rw [if_neg (by simp; omega)]
      have e3 : twoE s 0 = 0 := by unfold twoE; rw [if_neg (by simp), if_neg hs]
      rw [e1, e2, e3]
      refine (two_ok h (by omega)).mono fun r w' ⟨hr, m, hw⟩ => ⟨hr, ?_, ?_⟩
      · rw [hw]; exact (h.set0 _).drewN m
      · rw [hw]; exact (Only.set _ _ _ _).drewN m
  · have e1 : twoV s e = 0 := by unfold twoV; rw [if_pos (.inl he)]
    have e2 : twoS s e = s := by unfold twoS; rw [if_pos (.inl he)]
    have e3 : twoE s e = e := by unfold twoE; rw [if_pos he]
    rw [e1, e2, e3]
    exact (two_bad h he).mono fun r w' ⟨hr, hw⟩ => ⟨hr, hw ▸ h, hw ▸ Only.refl _ _⟩

theorem empty_text {s : ByteArray} (h : ¬ 0 < s.size) : s = ⟨#[]⟩ := by
  apply ByteArray.ext
  apply Array.eq_empty_of_size_eq_zero
  have : s.data.size = s.size := rfl
  omega

theorem text_some {s : ByteArray} (h : 0 < s.size) : s.toList.isEmpty = false := by
  have := text_other (a := s) (b := ⟨#[]⟩) (by rintro rfl; exact absurd h (by decide))
  simpa using this

theorem end_reader (h : Rd 81 w b s e) : Calls Try.prog 40 #[.pointer (some ⟨b, 0, none⟩)] w fun r w' => r = .returned (.int .i64 (endV s e)) ∧ w' = w := by
  have c0 := h.c0
  have c1 := h.c1
  by_cases he : e = 0
  · subst he
    have k := failed_no h
    by_cases hs : 0 < s.size
    · have q := text_some hs
      have e1 : endV s 0 = 23 := by unfold endV; rw [if_pos ⟨rfl, hs⟩]
      rw [e1]
      go_enter Try.func40, Try.ntmps40
      go_wp2_with (go_at_call 47; refine k.mono ?_; rintro e w' ⟨rfl, hw⟩; obtain rfl := hw.symm)
      go_ret
      exact ⟨rfl, rfl⟩
    · have e1 : endV s 0 = 0 := by unfold endV; rw [if_neg (by omega)]
      rw [e1]
      obtain rfl := empty_text hs
      go_enter Try.func40, Try.ntmps40
      go_wp2_with (go_at_call 47; refine k.mono ?_; rintro e w' ⟨rfl, hw⟩; obtain rfl := hw.symm)
      go_ret
      exact ⟨rfl, rfl⟩
  · have k := failed_yes h he
    have e1 : endV s e = e := by unfold endV; rw [if_neg (by omega)]
    rw [e1]
    go_enter Try.func40, Try.ntmps40
    go_wp2_with (go_at_call 47; refine k.mono ?_; rintro e w' ⟨rfl, hw⟩; obtain rfl := hw.symm)
    go_ret
    exact ⟨rfl, rfl⟩

end Go.Proofs.Ytbmlafgolmmekab
