/- What the document's sums of products give back, and whether two rows are the same: contracts of the calls. -/
import Derived.Test.YtlpmndlefbghoaaRows
import Derived.Test.YtlpmndlefbghoaaSat
import Derived.Test.YtlpmndlefbghoaaSatRef
import Derived.Test.YtlpmndlefbghoaaAdds
import Derived.Test.YtlpmndlefbghoaaView
import Derived.Test.YtlpmndlefbghoaaFitZ
import Derived.WalkKit
import Derived.ProofKit
import Derived.OpenShut
import Derived.WalkLawsBesides
import Derived.Deep.QuietTactic
import Derived.BigQuiet
namespace Go.Proofs.Ytlpmndlefbghoaa
open Go.ChangeShapes Go.WideShapes Go.ChangeAt Go.RowKit
set_option linter.unusedVariables false

theorem clampZ_id (z : Int) (h0 : -2147483648 ≤ z) (h1 : z ≤ 2147483647) : clampZ z = z := by
  unfold clampZ
  rw [if_neg (by omega), if_neg (by omega)]

theorem refDot_same (a0 : Option Addr) (n c0 : Nat) (zs : List Int) (a1 : Option Addr) (c1 : Nat) (xs : List Int) (w : World)
    (h0 : Reads .i8 w a0 n zs) (h1 : Reads .i64 w a1 n xs) :
    Calls Try.prog 34 #[.slice a0 n c0, .slice a1 n c1] w fun e w' => e = .returned (.tuple #[.int .i64 (dotZ zs xs 6), .int .i64 0]) ∧ ∃ m, w' = w.drewN m := by
  have hm := h0.max
  have hl : zs.length = n := h0.len
  unfold dotZ
  rw [hl]
  clear hl
  go_enter Try.func34, Try.ntmps34
  go_wp2
  go_loopw [6, 7] (fun s i wr => ∃ k : Nat, k ≤ n ∧ i = .int .i64 k ∧ s = .int .i64 (prodZ zs xs k) ∧ ∃ m, wr = w.drewN m) (fun _ i _ => n - (intOf i).toNat)
  case atStart => exact ⟨0, Nat.zero_le _, rfl, rfl, 0, rfl⟩
  case round =>
    obtain ⟨k, hk, rfl, rfl, m, hw⟩ := hrel
    by_cases hlt : k < n
    · obtain ⟨x, rfl⟩ := h0.some_ (by omega)
      obtain ⟨y, rfl⟩ := h1.some_ (by omega)
      have cx : wr.cell? (x.add k) = some (.int .i8 (zs.getD k 0)) := by rw [hw]; exact h0.cell x rfl k hlt
      have cy : wr.cell? (y.add k) = some (.int .i64 (xs.getD k 0)) := by rw [hw]; exact h1.cell y rfl k hlt
      have Hw : Hid (wr = w.drewN m) := hw
      clear hw
      have wz := h0.wf k
      have es : prodZ zs xs (k + 1) = addZ (prodZ zs xs k) (clampZ (zs.getD k 0) * clampZ (xs.getD k 0)) := rfl
      have ws := wf_prodZ zs xs k
      obtain ⟨Z, eZ⟩ : ∃ Z, zs.getD k 0 = Z := ⟨_, rfl⟩
      obtain ⟨X, eX⟩ : ∃ X, xs.getD k 0 = X := ⟨_, rfl⟩
      obtain ⟨S, eS⟩ : ∃ S, prodZ zs xs k = S := ⟨_, rfl⟩
      rw [eZ] at cx es wz
      rw [eX] at cy es
      rw [eS] at es ws ⊢
      have b8 : -128 ≤ Z ∧ Z ≤ 127 := by simpa [Lit.wf, IntKind.min, IntKind.max, IntKind.signed, IntKind.bits] using wz
      rw [clampZ_id Z (by omega) (by omega)] at es
      have Es : Hid (prodZ zs xs (k + 1) = addZ S (Z * clampZ X)) := es
      clear eZ eX eS es
      have bz : -2147483648 ≤ Z ∧ Z ≤ 2147483647 := ⟨by omega, by omega⟩
      have bx := clampZ_bounds X
      have bp := prodM_bounds _ _ bz bx
      have wp : (Lit.int .i64 (Z * clampZ X)).wf = true := WalkArith.wf_i64 ⟨by omega, by omega⟩
      go_wp2
      go_quiet (first | (go_at_call 25; refine Calls.quiet_of_same (refClamp_call _ _)) | (go_at_call 24; refine Calls.quiet_of_same (refAdd_call _ _ ws wp _)))
      go_wp2
      go_roundw
      case rel => exact ⟨k + 1, by omega, by go_num, by rw [Es.out], _, by rw [Hw.out, World.drewN_drewN]⟩
      case measure => simp [intOf]; omega
    · have e : k = n := by omega
      subst e
      subst hw
      have ws := wf_prodZ zs xs k
      go_wp2_with (first | (go_at_call 26; refine (refShift_call _ _ ws (by decide) _).mono ?_; rintro e w' ⟨rfl, rfl⟩) | (go_at_call 25; refine (refClamp_call _ _).mono ?_; rintro e w' ⟨rfl, rfl⟩))
      go_ret2
      exact ⟨rfl, _, rfl⟩

theorem refDot_call (a0 : Option Addr) (n0 c0 : Nat) (zs : List Int) (a1 : Option Addr) (n1 c1 : Nat) (xs : List Int) (w : World)
    (h0 : Reads .i8 w a0 n0 zs) (h1 : Reads .i64 w a1 n1 xs) :
    Calls Try.prog 34 #[.slice a0 n0 c0, .slice a1 n1 c1] w fun e w' => e = .returned (.tuple #[.int .i64 (if n0 = n1 then dotZ zs xs 6 else 0), .int .i64 (if n0 = n1 then 0 else 21)]) ∧ ∃ m, w' = w.drewN m := by
  by_cases e : n0 = n1
  · subst e
    simp only [if_true]
    exact refDot_same _ _ _ _ _ _ _ _ h0 h1
  · simp only [if_neg e]
    have e' : ((n0 : Int) == (n1 : Int)) = false := by simp; omega
    go_enter Try.func34, Try.ntmps34
    go_wp2_with fail
    go_ret2
    exact ⟨rfl, 0, rfl⟩

theorem same64_call (a0 : Option Addr) (n0 c0 : Nat) (zs : List Int) (a1 : Option Addr) (n1 c1 : Nat) (w : World)
    (h0 : Reads .i64 w a0 n0 zs) (h1 : Reads .i64 w a1 n1 zs) :
    Calls Try.prog 14 #[.slice a0 n0 c0, .slice a1 n1 c1] w fun e w' => e = .returned (.bool true) ∧ ∃ m, w' = w.drewN m := by
  obtain rfl : n0 = n1 := h0.len.symm.trans h1.len
  have hm := h0.max
  go_enter Try.func14, Try.ntmps14
  go_wp2
  go_loopw [5] (fun i wr => ∃ k : Nat, k ≤ n0 ∧ i = .int .i64 k ∧ ∃ m, wr = w.drewN m) (fun i _ => n0 - (intOf i).toNat)
  case atStart => exact ⟨0, Nat.zero_le _, rfl, 0, rfl⟩
  case round =>
    obtain ⟨k, hk, rfl, m, hw⟩ := hrel
    by_cases hlt : k < n0
    · obtain ⟨x, rfl⟩ := h0.some_ (by omega)
      obtain ⟨y, rfl⟩ := h1.some_ (by omega)
      have cx : wr.cell? (x.add k) = some (.int .i64 (zs.getD k 0)) := by rw [hw]; exact h0.cell x rfl k hlt
      have cy : wr.cell? (y.add k) = some (.int .i64 (zs.getD k 0)) := by rw [hw]; exact h1.cell y rfl k hlt
      have Hw : Hid (wr = w.drewN m) := hw
      clear hw
      obtain ⟨Z, eZ⟩ : ∃ Z, zs.getD k 0 = Z := ⟨_, rfl⟩
      rw [eZ] at cx cy
      clear eZ
      go_wp2
      go_quiet (fail)
      go_wp2
      go_roundw
      case rel => exact ⟨k + 1, by omega, by go_num, _, by rw [Hw.out, World.drewN_drewN]⟩
      case measure => simp [intOf]; omega
    · have e : k = n0 := by omega
      subst e
      subst hw
      go_wp2
      go_ret
      exact ⟨rfl, _, rfl⟩

end Go.Proofs.Ytlpmndlefbghoaa
