/- What draw.Bits, draw.Heat and the document's give back; that no number of a seed comes twice. -/
import Derived.Test.YtkoifogkdbhpcaaRows
import Derived.Test.YtkoifogkdbhpcaaSat
import Derived.Test.YtkoifogkdbhpcaaKnFixes
import Derived.Test.YtkoifogkdbhpcaaKnSigns
import Derived.WalkKit
import Derived.ProofKit
import Derived.OpenShut
import Derived.WalkLawsBesides
import Derived.Laws.BitsAllLaws
namespace Go.Proofs.Ytkoifogkdbhpcaa
open Go.ChangeShapes Go.WideShapes Go.ChangeAt Go.RowKit
set_option linter.unusedVariables false
set_option maxRecDepth 20000

/-! ### Bits -/
def bz0 (s n : Int) : Int := IntKind.u64.wrap (s + IntKind.u64.wrap (IntKind.u64.wrap (IntKind.u64.wrap n + 1) * 11400714819323198485))
def bz1 (z : Int) : Int := IntKind.u64.wrap (bits .xor .u64 z (z / 1073741824) * 13787848793156543929)
def bz2 (z : Int) : Int := IntKind.u64.wrap (bits .xor .u64 z (z / 134217728) * 10723151780598845931)
def bz3 (z : Int) : Int := bits .xor .u64 z (z / 2147483648)
def bitsZ (s n : Int) : Int := bz3 (bz2 (bz1 (bz0 s n)))

theorem bits_call (s n : Int) (w : World) :
    Calls Try.prog 10 #[.int .u64 s, .int .i64 n] w fun e w' => e = .returned (.int .u64 (bitsZ s n)) ∧ w' = w := by
  go_enter Try.func10, Try.ntmps10
  go_wp2
  all_goals (go_ret; exact ⟨ret_int rfl, rfl⟩)

theorem refBits_call (s n : Int) (w : World) :
    Calls Try.prog 11 #[.int .u64 s, .int .i64 n] w fun e w' => e = .returned (.int .u64 (bitsZ s n)) ∧ w' = w := by
  go_enter Try.func11, Try.ntmps11
  go_wp2
  all_goals (go_ret; exact ⟨ret_int rfl, rfl⟩)

/-! ### Each step can be gone back -/
theorem xor_back {k a b : Nat} (hk : 0 < k) (ha : a < 2 ^ 64) (hb : b < 2 ^ 64) (h : a ^^^ a / 2 ^ k = b ^^^ b / 2 ^ k) : a = b := by
  have hi : ∀ m i, 64 ≤ i + m → a.testBit i = b.testBit i := by
    intro m
    induction m with
    | zero =>
      intro i hi
      rw [Nat.testBit_lt_two_pow (Nat.lt_of_lt_of_le ha (Nat.pow_le_pow_right (by decide) (by omega))), Nat.testBit_lt_two_pow (Nat.lt_of_lt_of_le hb (Nat.pow_le_pow_right (by decide) (by omega)))]
    | succ m ih =>
      intro i hi
      have e := congrArg (fun x => x.testBit i) h
      simp only [Nat.testBit_xor, Nat.testBit_div_two_pow] at e
      have e2 := ih (i + k) (by omega)
      rw [e2] at e
      revert e
      cases a.testBit i <;> cases b.testBit i <;> cases b.testBit (i + k) <;> decide
  exact Nat.eq_of_testBit_eq fun i => hi 64 i (by omega)

theorem xor_nat (k m : Nat) (d : Int) (hd : d = ((2 ^ k : Nat) : Int)) (hm : m < 18446744073709551616) : bits .xor .u64 (m : Int) ((m : Int) / d) = ((m ^^^ m / 2 ^ k : Nat) : Int) := by
  rw [hd, ← Int.natCast_ediv]
  exact u64_xor_nat m (m / 2 ^ k) hm (Nat.lt_of_le_of_lt (Nat.div_le_self _ _) hm)

theorem xor_lt (k m : Nat) (hm : m < 18446744073709551616) : m ^^^ m / 2 ^ k < 18446744073709551616 :=
  Nat.xor_lt_two_pow (n := 64) hm (Nat.lt_of_le_of_lt (Nat.div_le_self _ _) hm)

theorem xor_inj (k : Nat) (hk : 0 < k) (d : Int) (hd : d = ((2 ^ k : Nat) : Int)) {y z : Int} (y0 : 0 ≤ y) (y1 : y < 18446744073709551616) (z0 : 0 ≤ z) (z1 : z < 18446744073709551616) (h : bits .xor .u64 y (y / d) = bits .xor .u64 z (z / d)) : y = z := by
  obtain ⟨a, rfl⟩ : ∃ a : Nat, y = a := ⟨y.toNat, by omega⟩
  obtain ⟨b, rfl⟩ : ∃ b : Nat, z = b := ⟨z.toNat, by omega⟩
  rw [xor_nat k a d hd (by omega), xor_nat k b d hd (by omega)] at h
  rw [xor_back hk (by omega) (by omega) (Int.ofNat.inj h)]

theorem xor_bounds (k : Nat) (d : Int) (hd : d = ((2 ^ k : Nat) : Int)) {y : Int} (y0 : 0 ≤ y) (y1 : y < 18446744073709551616) : 0 ≤ bits .xor .u64 y (y / d) ∧ bits .xor .u64 y (y / d) < 18446744073709551616 := by
  obtain ⟨a, rfl⟩ : ∃ a : Nat, y = a := ⟨y.toNat, by omega⟩
  rw [xor_nat k a d hd (by omega)]
  have := xor_lt k a (by omega)
  omega

theorem mul_inj (C D : Int) (hCD : C * D % 18446744073709551616 = 1) {y z : Int} (y0 : 0 ≤ y) (y1 : y < 18446744073709551616) (z0 : 0 ≤ z) (z1 : z < 18446744073709551616) (h : y * C % 18446744073709551616 = z * C % 18446744073709551616) : y = z := by
  have e : ∀ x : Int, 0 ≤ x → x < 18446744073709551616 → x * C % 18446744073709551616 * D % 18446744073709551616 = x := by
    intro x h0 h1
    rw [Int.mul_emod, Int.emod_emod_of_dvd _ (Int.dvd_refl _), ← Int.mul_emod, Int.mul_assoc, Int.mul_emod, hCD, Int.mul_one, Int.emod_emod_of_dvd _ (Int.dvd_refl _), Int.emod_eq_of_lt h0 h1]
  rw [← e y y0 y1, h, e z z0 z1]

theorem wrap_u (n : Int) : IntKind.u64.wrap n = n % 18446744073709551616 := IntKind.wrap_u64 n

theorem mul0_inj {y z : Int} (y0 : 0 ≤ y) (y1 : y < 18446744073709551616) (z0 : 0 ≤ z) (z1 : z < 18446744073709551616) (h : IntKind.u64.wrap (y * 11400714819323198485) = IntKind.u64.wrap (z * 11400714819323198485)) : y = z := by
  rw [wrap_u, wrap_u] at h
  exact mul_inj 11400714819323198485 17428512612931826493 (by decide) y0 y1 z0 z1 h

theorem mul1_inj {y z : Int} (y0 : 0 ≤ y) (y1 : y < 18446744073709551616) (z0 : 0 ≤ z) (z1 : z < 18446744073709551616) (h : IntKind.u64.wrap (y * 13787848793156543929) = IntKind.u64.wrap (z * 13787848793156543929)) : y = z := by
  rw [wrap_u, wrap_u] at h
  exact mul_inj 13787848793156543929 10871156337175269513 (by decide) y0 y1 z0 z1 h

theorem mul2_inj {y z : Int} (y0 : 0 ≤ y) (y1 : y < 18446744073709551616) (z0 : 0 ≤ z) (z1 : z < 18446744073709551616) (h : IntKind.u64.wrap (y * 10723151780598845931) = IntKind.u64.wrap (z * 10723151780598845931)) : y = z := by
  rw [wrap_u, wrap_u] at h
  exact mul_inj 10723151780598845931 3573116690164977347 (by decide) y0 y1 z0 z1 h

theorem wrap_bounds (n : Int) : 0 ≤ IntKind.u64.wrap n ∧ IntKind.u64.wrap n < 18446744073709551616 := by
  rw [wrap_u]; omega

theorem bz0_bounds (s n : Int) : 0 ≤ bz0 s n ∧ bz0 s n < 18446744073709551616 := wrap_bounds _
theorem bz1_bounds (z : Int) : 0 ≤ bz1 z ∧ bz1 z < 18446744073709551616 := wrap_bounds _
theorem bz2_bounds (z : Int) : 0 ≤ bz2 z ∧ bz2 z < 18446744073709551616 := wrap_bounds _

theorem bz1_inj {y z : Int} (hy : 0 ≤ y ∧ y < 18446744073709551616) (hz : 0 ≤ z ∧ z < 18446744073709551616) (h : bz1 y = bz1 z) : y = z := by
  have b1 := xor_bounds 30 1073741824 (by decide) hy.1 hy.2
  have b2 := xor_bounds 30 1073741824 (by decide) hz.1 hz.2
  exact xor_inj 30 (by decide) 1073741824 (by decide) hy.1 hy.2 hz.1 hz.2 (mul1_inj b1.1 b1.2 b2.1 b2.2 h)

theorem bz2_inj {y z : Int} (hy : 0 ≤ y ∧ y < 18446744073709551616) (hz : 0 ≤ z ∧ z < 18446744073709551616) (h : bz2 y = bz2 z) : y = z := by
  have b1 := xor_bounds 27 134217728 (by decide) hy.1 hy.2
  have b2 := xor_bounds 27 134217728 (by decide) hz.1 hz.2
  exact xor_inj 27 (by decide) 134217728 (by decide) hy.1 hy.2 hz.1 hz.2 (mul2_inj b1.1 b1.2 b2.1 b2.2 h)

theorem bz3_inj {y z : Int} (hy : 0 ≤ y ∧ y < 18446744073709551616) (hz : 0 ≤ z ∧ z < 18446744073709551616) (h : bz3 y = bz3 z) : y = z :=
  xor_inj 31 (by decide) 2147483648 (by decide) hy.1 hy.2 hz.1 hz.2 h

theorem bits_back {s t m n : Int} (h : bitsZ s m = bitsZ t n) : bz0 s m = bz0 t n :=
  bz1_inj (bz0_bounds s m) (bz0_bounds t n) (bz2_inj (bz1_bounds _) (bz1_bounds _) (bz3_inj (bz2_bounds _) (bz2_bounds _) h))

theorem add_inj {s a b : Int} (ha : 0 ≤ a ∧ a < 18446744073709551616) (hb : 0 ≤ b ∧ b < 18446744073709551616) (h : IntKind.u64.wrap (s + a) = IntKind.u64.wrap (s + b)) : a = b := by
  rw [wrap_u, wrap_u] at h
  omega

theorem bz0_place {s m n : Int} (m0 : 0 ≤ m) (m1 : m < 1152921504606846976) (n0 : 0 ≤ n) (n1 : n < 1152921504606846976) (h : bz0 s m = bz0 s n) : m = n := by
  have h1 := add_inj (wrap_bounds _) (wrap_bounds _) h
  have b1 := wrap_bounds (IntKind.u64.wrap m + 1)
  have b2 := wrap_bounds (IntKind.u64.wrap n + 1)
  have h2 := mul0_inj b1.1 b1.2 b2.1 b2.2 h1
  clear h h1 b1 b2
  rw [wrap_u, wrap_u, wrap_u, wrap_u] at h2
  omega

theorem bz0_seed {s t n : Int} (s0 : 0 ≤ s) (s1 : s ≤ 18446744073709551615) (t0 : 0 ≤ t) (t1 : t ≤ 18446744073709551615) (h : bz0 s n = bz0 t n) : s = t := by
  unfold bz0 at h
  obtain ⟨C, hC⟩ : ∃ C, IntKind.u64.wrap (IntKind.u64.wrap (IntKind.u64.wrap n + 1) * 11400714819323198485) = C := ⟨_, rfl⟩
  rw [hC, Int.add_comm s, Int.add_comm t] at h
  exact add_inj ⟨s0, by omega⟩ ⟨t0, by omega⟩ h

theorem bits_places (s m n : Int) (m0 : 0 ≤ m) (m1 : m < 1152921504606846976) (n0 : 0 ≤ n) (n1 : n < 1152921504606846976) : (bitsZ s m == bitsZ s n) = (m == n) := by
  rw [Bool.eq_iff_iff, beq_iff_eq, beq_iff_eq]
  exact ⟨fun h => bz0_place m0 m1 n0 n1 (bits_back h), fun h => by rw [h]⟩

theorem bits_seeds (s t n : Int) (s0 : 0 ≤ s) (s1 : s ≤ 18446744073709551615) (t0 : 0 ≤ t) (t1 : t ≤ 18446744073709551615) : (bitsZ s n == bitsZ t n) = (s == t) := by
  rw [Bool.eq_iff_iff, beq_iff_eq, beq_iff_eq]
  exact ⟨fun h => bz0_seed s0 s1 t0 t1 (bits_back h), fun h => by rw [h]⟩

/-! ### Heat -/
def heatZ (x : Nat) : Int := max (fixN x) 0

theorem heat_call (x : Nat) (w : World) :
    Calls Try.prog 8 #[.float .f64 x] w fun e w' => e = .returned (.tuple #[.int .i64 (heatZ x), .int .i64 (fixE x)]) ∧ w' = w := by
  have kf := fun W => fix_call x W
  unfold heatZ
  obtain ⟨F, eF⟩ : ∃ F, fixN x = F := ⟨_, rfl⟩
  obtain ⟨G, eG⟩ : ∃ G, fixE x = G := ⟨_, rfl⟩
  rw [eF, eG] at kf ⊢
  clear eF eG
  go_enter Try.func8, Try.ntmps8
  go_wp2_with (go_at_call 17; refine (kf _).mono ?_; rintro e w' ⟨rfl, h⟩; obtain rfl := h.symm)
  all_goals (go_ret2; refine ⟨ret_pair ?_ rfl, rfl⟩)
  all_goals omega

theorem refHeat_call (x : Nat) (w : World) :
    Calls Try.prog 9 #[.float .f64 x] w fun e w' => e = .returned (.tuple #[.int .i64 (heatZ x), .int .i64 (fixE x)]) ∧ w' = w := by
  have kf := fun W => refFix_call x W
  unfold heatZ
  obtain ⟨F, eF⟩ : ∃ F, fixN x = F := ⟨_, rfl⟩
  obtain ⟨G, eG⟩ : ∃ G, fixE x = G := ⟨_, rfl⟩
  rw [eF, eG] at kf ⊢
  clear eF eG
  go_enter Try.func9, Try.ntmps9
  go_wp2_with (go_at_call 18; refine (kf _).mono ?_; rintro e w' ⟨rfl, h⟩; obtain rfl := h.symm)
  all_goals (go_ret2; refine ⟨ret_pair ?_ rfl, rfl⟩)
  all_goals omega

end Go.Proofs.Ytkoifogkdbhpcaa
