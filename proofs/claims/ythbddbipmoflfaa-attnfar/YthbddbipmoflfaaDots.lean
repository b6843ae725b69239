/- What the program's sums of products give back: contracts of the calls. -/
import Derived.Test.YthbddbipmoflfaaRows
import Derived.Test.YthbddbipmoflfaaSat
import Derived.Test.YthbddbipmoflfaaAdds
import Derived.Test.YthbddbipmoflfaaView
import Derived.WalkKit
import Derived.ProofKit
import Derived.OpenShut
import Derived.WalkLawsBesides
import Derived.Deep.QuietTactic
import Derived.BigQuiet
namespace Go.Proofs.Ythbddbipmoflfaa
open Go.ChangeShapes Go.WideShapes Go.ChangeAt Go.RowKit
set_option linter.unusedVariables false

/-- from nought on, the first k products, clamped, added one behind the other -/
def sumZ (a b : List Int) : Nat → Int
  | 0 => 0
  | k + 1 => addZ (sumZ a b k) (clampZ (a.getD k 0) * clampZ (b.getD k 0))

theorem wf_sumZ (a b : List Int) (k : Nat) : (Lit.int .i64 (sumZ a b k)).wf = true := by
  cases k with
  | zero => show (Lit.int .i64 0).wf = true; decide
  | succ k => exact wf_addZ _ _

theorem prodD_bounds (x y : Int) (hx : -2147483648 ≤ x ∧ x ≤ 2147483647) (hy : -2147483648 ≤ y ∧ y ≤ 2147483647) : -4611686018427387904 ≤ x * y ∧ x * y ≤ 4611686018427387904 := by
  have h : (x * y).natAbs ≤ 2147483648 * 2147483648 := by
    rw [Int.natAbs_mul]
    exact Nat.mul_le_mul (by omega) (by omega)
  omega

def dotZ (a b : List Int) (bits : Int) : Int := clampZ (shiftZ (sumZ a b a.length) bits)

theorem products64_call (a0 : Option Addr) (n c0 : Nat) (zs : List Int) (a1 : Option Addr) (c1 : Nat) (xs : List Int) (bits : Int) (w : World)
    (h0 : Reads .i64 w a0 n zs) (h1 : Reads .i64 w a1 n xs) (hb : (Lit.int .i64 bits).wf = true) :
    Calls Try.prog 47 #[.slice a0 n c0, .slice a1 n c1, .int .i64 bits] w fun e w' => e = .returned (.int .i64 (dotZ zs xs bits)) ∧ ∃ m, w' = w.drewN m := by
  have hm := h0.max
  have hl : zs.length = n := h0.len
  unfold dotZ
  rw [hl]
  clear hl
  go_enter Try.func47, Try.ntmps47
  go_wp2
  go_loopw [7, 12] (fun s i wr => ∃ k : Nat, k ≤ n ∧ i = .int .i64 k ∧ s = .int .i64 (sumZ zs xs k) ∧ ∃ m, wr = w.drewN m) (fun _ i _ => n - (intOf i).toNat)
  case atStart => exact ⟨0, Nat.zero_le _, rfl, rfl, 0, rfl⟩
  case round =>
    obtain ⟨k, hk, rfl, rfl, m, hw⟩ := hrel
    by_cases hlt : k < n
    · obtain ⟨x, rfl⟩ := h0.some_ (by omega)
      obtain ⟨y, rfl⟩ := h1.some_ (by omega)
      have cx : wr.cell? (x.add k) = some (.int .i64 (zs.getD k 0)) := by rw [hw]; exact h0.cell x rfl k hlt
      have cy : wr.cell? (y.add k) = some (.int .i64 (xs.getD k 0)) := by rw [hw]; exact h1.cell y rfl k hlt
      have Hw : Hid (wr = w.drewN m) := hw
      clear hw
      have wz := h0.wf k
      have es : sumZ zs xs (k + 1) = addZ (sumZ zs xs k) (clampZ (zs.getD k 0) * clampZ (xs.getD k 0)) := rfl
      have ws := wf_sumZ zs xs k
      obtain ⟨Z, eZ⟩ : ∃ Z, zs.getD k 0 = Z := ⟨_, rfl⟩
      obtain ⟨X, eX⟩ : ∃ X, xs.getD k 0 = X := ⟨_, rfl⟩
      obtain ⟨S, eS⟩ : ∃ S, sumZ zs xs k = S := ⟨_, rfl⟩
      rw [eZ] at cx es wz
      rw [eX] at cy es
      rw [eS] at es ws ⊢
      have Es : Hid (sumZ zs xs (k + 1) = addZ S (clampZ Z * clampZ X)) := es
      clear eZ eX eS es
      have bz := clampZ_bounds Z
      have bx := clampZ_bounds X
      have bp := prodD_bounds _ _ bz bx
      have wp : (Lit.int .i64 (clampZ Z * clampZ X)).wf = true := WalkArith.wf_i64 ⟨by omega, by omega⟩
      go_wp2
      go_quiet (first | (go_at_call 35; refine Calls.quiet_of_same (clamp_call _ _)) | (go_at_call 40; refine Calls.quiet_of_same (add_call _ _ ws wp _)))
      go_wp2
      go_roundw
      case rel => exact ⟨k + 1, by omega, by go_num, by rw [Es.out], _, by rw [Hw.out, World.drewN_drewN]⟩
      case measure => simp [intOf]; omega
    · have e : k = n := by omega
      subst e
      subst hw
      have ws := wf_sumZ zs xs k
      go_wp2_with (first | (go_at_call 41; refine (shift_call _ _ ws hb _).mono ?_; rintro e w' ⟨rfl, rfl⟩) | (go_at_call 35; refine (clamp_call _ _).mono ?_; rintro e w' ⟨rfl, rfl⟩))
      go_ret
      exact ⟨rfl, _, rfl⟩

theorem inner_call (a0 : Option Addr) (n0 c0 : Nat) (zs : List Int) (a1 : Option Addr) (n1 c1 : Nat) (xs : List Int) (w : World)
    (h0 : Reads .i64 w a0 n0 zs) (h1 : Reads .i64 w a1 n1 xs) :
    Calls Try.prog 38 #[.slice a0 n0 c0, .slice a1 n1 c1] w fun e w' => e = .returned (.tuple #[.int .i64 (if n0 = n1 then dotZ zs xs 16 else 0), .int .i64 (if n0 = n1 then 0 else 21)]) ∧ ∃ m, w' = w.drewN m := by
  by_cases e : n0 = n1
  · subst e
    simp only [if_true]
    go_enter Try.func38, Try.ntmps38
    go_wp2_with (go_at_call 47; refine (products64_call _ _ _ _ _ _ _ _ _ h0 h1 (by decide)).mono ?_; rintro e w' ⟨rfl, m, rfl⟩)
    go_ret2
    exact ⟨rfl, _, rfl⟩
  · simp only [if_neg e]
    have e' : ((n0 : Int) == (n1 : Int)) = false := by simp; omega
    go_enter Try.func38, Try.ntmps38
    go_wp2_with fail
    go_ret2
    exact ⟨rfl, 0, rfl⟩

end Go.Proofs.Ythbddbipmoflfaa
