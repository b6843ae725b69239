/- Texts put together: Fits, Dots. -/
import Derived.Test.YtlpmndlefbghoaaRows
import Derived.WalkKit
import Derived.ProofKit
import Derived.OpenShut
import Derived.WalkLawsBesides
import Derived.Test.YtlpmndlefbghoaaSat
import Derived.Test.YtlpmndlefbghoaaAdds
import Derived.Test.YtlpmndlefbghoaaView
import Derived.Deep.QuietTactic
import Derived.BigQuiet
namespace Go.Proofs.Ytlpmndlefbghoaa

/- Whether so many members make so many rows of that width: the contract of the call. -/
section
open Go.ChangeShapes Go.WideShapes Go.ChangeAt Go.RowKit
set_option linter.unusedVariables false

theorem fits_call (n d : Nat) (r : Int) (hn : n ≤ 9223372036854775807) (hd : d ≤ 9223372036854775807) (hr : (Lit.int .i64 r).wf = true) (w : World) :
    Calls Try.prog 50 #[.int .i64 n, .int .i64 r, .int .i64 d] w fun e w' => e = .returned (.bool (decide (0 < d ∧ n % d = 0 ∧ ((n / d : Nat) : Int) = r))) ∧ w' = w := by
  by_cases d0 : d = 0
  · subst d0
    have e : decide (0 < 0 ∧ n % 0 = 0 ∧ ((n / 0 : Nat) : Int) = r) = false := by simp
    rw [e]
    go_enter Try.func50, Try.ntmps50
    go_wp2
    go_ret
    exact ⟨rfl, rfl⟩
  · have hd0 : 0 < (d : Int) := by omega
    have q0 : 0 ≤ (n : Int) / (d : Int) := Int.ediv_nonneg (by omega) (by omega)
    have q1 : (n : Int) / (d : Int) ≤ n := Int.ediv_le_self _ (by omega)
    have eq : ((n / d : Nat) : Int) = (n : Int) / (d : Int) := Int.natCast_ediv n d
    have er : ((n % d : Nat) : Int) = (n : Int) % (d : Int) := Int.natCast_emod n d
    obtain ⟨q, eq'⟩ : ∃ q, (n : Int) / (d : Int) = q := ⟨_, rfl⟩
    obtain ⟨m, er'⟩ : ∃ m, (n : Int) % (d : Int) = m := ⟨_, rfl⟩
    have e : decide (0 < d ∧ n % d = 0 ∧ ((n / d : Nat) : Int) = r) = (decide (m = 0) && decide (q = r)) := by
      rw [eq, eq']
      rw [er'] at er
      have h1 : (n % d = 0) = (m = 0) := propext ⟨fun h => by omega, fun h => by omega⟩
      have h2 : (0 < d) = True := eq_true (by omega)
      simp only [h1, h2, true_and, Bool.decide_and]
    rw [e]
    rw [eq'] at q0 q1
    clear e eq er
    by_cases hm : m = 0
    · subst hm
      go_enter Try.func50, Try.ntmps50
      go_wp2
      go_ret
      exact ⟨by rw [show (q == r) = decide (q = r) from rfl]; simp, rfl⟩
    · have hm' : (m == 0) = false := by simp [hm]
      have hm2 : decide (m = 0) = false := by simp [hm]
      rw [hm2]
      go_enter Try.func50, Try.ntmps50
      go_wp2
      go_ret
      exact ⟨rfl, rfl⟩
end

/- What the program's sums of products give back: contracts of the calls. -/
section
open Go.ChangeShapes Go.WideShapes Go.ChangeAt Go.RowKit
set_option linter.unusedVariables false

/-- from nought on, the first k products, clamped, added one behind the other -/
def prodZ (a b : List Int) : Nat → Int
  | 0 => 0
  | k + 1 => addZ (prodZ a b k) (clampZ (a.getD k 0) * clampZ (b.getD k 0))

theorem wf_prodZ (a b : List Int) (k : Nat) : (Lit.int .i64 (prodZ a b k)).wf = true := by
  cases k with
  | zero => show (Lit.int .i64 0).wf = true; decide
  | succ k => exact wf_addZ _ _

theorem prodM_bounds (x y : Int) (hx : -2147483648 ≤ x ∧ x ≤ 2147483647) (hy : -2147483648 ≤ y ∧ y ≤ 2147483647) : -4611686018427387904 ≤ x * y ∧ x * y ≤ 4611686018427387904 := by
  have h : (x * y).natAbs ≤ 2147483648 * 2147483648 := by
    rw [Int.natAbs_mul]
    exact Nat.mul_le_mul (by omega) (by omega)
  omega

def dotZ (a b : List Int) (bits : Int) : Int := clampZ (shiftZ (prodZ a b a.length) bits)

theorem products8_call (a0 : Option Addr) (n c0 : Nat) (zs : List Int) (a1 : Option Addr) (c1 : Nat) (xs : List Int) (bits : Int) (w : World)
    (h0 : Reads .i8 w a0 n zs) (h1 : Reads .i64 w a1 n xs) (hb : (Lit.int .i64 bits).wf = true) :
    Calls Try.prog 51 #[.slice a0 n c0, .slice a1 n c1, .int .i64 bits] w fun e w' => e = .returned (.int .i64 (dotZ zs xs bits)) ∧ ∃ m, w' = w.drewN m := by
  have hm := h0.max
  have hl : zs.length = n := h0.len
  unfold dotZ
  rw [hl]
  clear hl
  go_enter Try.func51, Try.ntmps51
  go_wp2
  go_loopw [7, 12] (fun s i wr => ∃ k : Nat, k ≤ n ∧ i = .int .i64 k ∧ s = .int .i64 (prodZ zs xs k) ∧ ∃ m, wr = w.drewN m) (fun _ i _ => n - (intOf i).toNat)
  case atStart => exact ⟨0, Nat.zero_le _, rfl, rfl, 0, rfl⟩
  case round =>
    obtain ⟨k, hk, rfl, rfl, m, hw⟩ := hrel
    by_cases hlt : k < n
    · obtain ⟨x, rfl⟩ := h0.some_ (by omega)
      obtain ⟨y, rfl⟩ := h1.some_ (by omega)
      have cx : wr.cell? (x.add k) = some (.int .i8 (zs.getD k 0)) := by rw [hw]; exact h0.cell x rfl k hlt
      have cy : wr.cell? (y.add k) = some (.int .i64 (xs.getD k 0)) := by rw [hw]; exact h1.cell y rfl k hlt
      have Hw : Hid (wr = w.drewN m) := hw
      clear hw
      have wz := h0.wf k
      have es : prodZ zs xs (k + 1) = addZ (prodZ zs xs k) (clampZ (zs.getD k 0) * clampZ (xs.getD k 0)) := rfl
      have ws := wf_prodZ zs xs k
      obtain ⟨Z, eZ⟩ : ∃ Z, zs.getD k 0 = Z := ⟨_, rfl⟩
      obtain ⟨X, eX⟩ : ∃ X, xs.getD k 0 = X := ⟨_, rfl⟩
      obtain ⟨S, eS⟩ : ∃ S, prodZ zs xs k = S := ⟨_, rfl⟩
      rw [eZ] at cx es wz
      rw [eX] at cy es
      rw [eS] at es ws ⊢
      have Es : Hid (prodZ zs xs (k + 1) = addZ S (clampZ Z * clampZ X)) := es
      clear eZ eX eS es
      have bz := clampZ_bounds Z
      have bx := clampZ_bounds X
      have bp := prodM_bounds _ _ bz bx
      have wp : (Lit.int .i64 (clampZ Z * clampZ X)).wf = true := WalkArith.wf_i64 ⟨by omega, by omega⟩
      have b8 : -128 ≤ Z ∧ Z ≤ 127 := by simpa [Lit.wf, IntKind.min, IntKind.max, IntKind.signed, IntKind.bits] using wz
      go_wp2
      go_quiet (first | (go_at_call 48; refine Calls.quiet_of_same (clamp_call _ _)) | (go_at_call 47; refine Calls.quiet_of_same (add_call _ _ ws wp _)))
      go_wp2
      go_roundw
      case rel => exact ⟨k + 1, by omega, by go_num, by rw [Es.out], _, by rw [Hw.out, World.drewN_drewN]⟩
      case measure => simp [intOf]; omega
    · have e : k = n := by omega
      subst e
      subst hw
      have ws := wf_prodZ zs xs k
      go_wp2_with (first | (go_at_call 49; refine (shift_call _ _ ws hb _).mono ?_; rintro e w' ⟨rfl, rfl⟩) | (go_at_call 48; refine (clamp_call _ _).mono ?_; rintro e w' ⟨rfl, rfl⟩))
      go_ret
      exact ⟨rfl, _, rfl⟩
end

end Go.Proofs.Ytlpmndlefbghoaa
