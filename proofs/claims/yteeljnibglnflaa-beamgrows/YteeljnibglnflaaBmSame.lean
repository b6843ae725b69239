/- Two lists of beams that hold the same: a contract of the call. -/
import Derived.Test.YteeljnibglnflaaRows
import Derived.Test.YteeljnibglnflaaView
import Derived.Test.YteeljnibglnflaaGSameI
import Derived.Test.YteeljnibglnflaaBmZ
import Derived.Test.YteeljnibglnflaaBmAt
import Derived.WalkKit
import Derived.ProofKit
import Derived.OpenShut
import Derived.WalkLawsBesides
import Derived.Below
import Derived.Deep.QuietTactic
import Derived.BigQuiet
import Derived.Laws.AppendOwnNone
namespace Go.Proofs.Yteeljnibglnflaa
set_option maxRecDepth 20000
open Go.ChangeShapes Go.WideShapes Go.ChangeAt Go.RowKit
set_option linter.unusedVariables false
set_option linter.unusedSimpArgs false

/-- two lists of beams that hold the same -/
theorem sameB_call (a0 : Option Addr) (n ca : Nat) (A : Nat → Option Addr) (C : Nat → Nat) (a1 : Option Addr) (cb : Nat) (A1 : Nat → Option Addr) (C1 : Nat → Nat) (L : Nat → Bm) (w : World) (h0 : BmAt w a0 n A C L) (h1 : BmAt w a1 n A1 C1 L) :
    Calls Try.prog 12 #[.slice a0 n ca, .slice a1 n cb] w fun e w' => e = .returned (.bool true) ∧ ∃ m, w' = w.drewN m := by
  have hm := h0.max
  have H0 : Hid (BmAt w a0 n A C L) := h0
  have H1 : Hid (BmAt w a1 n A1 C1 L) := h1
  clear h0 h1
  go_enter Try.func12, Try.ntmps12
  go_wp2
  go_loopw [5] (fun i wr => ∃ k : Nat, k ≤ n ∧ i = .int .i64 k ∧ ∃ m, wr = w.drewN m) (fun i _ => n - (intOf i).toNat)
  case atStart => exact ⟨0, Nat.zero_le _, rfl, 0, rfl⟩
  case round =>
    obtain ⟨k, hk, rfl, m, hw⟩ := hrel
    by_cases hlt : k < n
    · obtain ⟨x, hx⟩ := H0.out.some_ (by omega)
      obtain ⟨x1, hx1⟩ := H1.out.some_ (by omega)
      subst hx
      subst hx1
      have hr := H0.out.drewN m
      have hr1 := H1.out.drewN m
      rw [← hw] at hr hr1
      obtain ⟨y, ey, d0, d1, d2⟩ := hr.at3 hlt
      obtain ⟨y1, ey1, f0, f1, f2⟩ := hr1.at3 hlt
      have ks := fun W (m' : Nat) (e : W = wr.drewN m') => same_ints (A k) (L k).t.length (C k) (L k).t (A1 k) (L k).t.length (C1 k) W (by rw [e]; exact (hr.row k hlt).drewN m') (by rw [e]; exact (hr1.row k hlt).drewN m')
      have tm := (hr.row k hlt).max
      have Hw : Hid (wr = w.drewN m) := hw
      clear hw
      obtain ⟨S, eS⟩ : ∃ S, (L k).s = S := ⟨_, rfl⟩
      obtain ⟨F, eF⟩ : ∃ S, (L k).f = S := ⟨_, rfl⟩
      obtain ⟨T, eT⟩ : ∃ S, (L k).t.length = S := ⟨_, rfl⟩
      rw [eS] at d1 f1
      rw [eF] at d2 f2
      rw [eT] at d0 f0 ks tm
      clear eS eF eT hr hr1
      have nF : (F != F) = false := by simp
      have nS : (S != S) = false := by simp
      go_wp2
      go_quiet (first | (go_at_call 14; refine Calls.quiet_of (ks _ _ rfl)))
      go_wp2
      go_roundw
      case rel => exact ⟨k + 1, by omega, by go_num, _, by rw [Hw.out, World.drewN_drewN]⟩
      case measure => simp [intOf]; omega
    · have e : k = n := by omega
      subst e
      subst hw
      go_wp2
      go_ret
      exact ⟨rfl, _, rfl⟩

end Go.Proofs.Yteeljnibglnflaa
