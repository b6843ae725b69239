/- For every number of the type float64 and every whole number of 64 bits without sign the Go function KnobSigns returns true (a number with its sign turned is made the fixed one with its sign turned, but at the edge; what is no number is refused, whatever its bits) and leaves its arguments as they were; no condition. -/
import Derived.Test.YtcjenapnnldboaaRows
import Derived.Test.YtcjenapnnldboaaFloats
import Derived.Test.YtcjenapnnldboaaExact
import Derived.Test.YtcjenapnnldboaaOps
import Derived.Test.YtcjenapnnldboaaRound
import Derived.Test.YtcjenapnnldboaaCalls
import Derived.Test.YtcjenapnnldboaaFixes
import Derived.Test.YtcjenapnnldboaaWorks
import Derived.WalkKit
import Derived.ProofKit
import Derived.OpenShut
import Derived.WalkLawsBesides
import Derived.Laws.BitsAllLaws
namespace Go.Proofs.Ytcjenapnnldboaa.knobSigns
open Go.ChangeShapes Go.WideShapes Go.ChangeAt Go.RowKit
set_option linter.unusedVariables false
set_option linter.unusedSimpArgs false

theorem own : ownKnob Try.prog.godebug = none := by kernel_rfl

/-! The word with its sign turned. -/
theorem flip_rung (x : Nat) : (x ^^^ 2 ^ 63) % 2 ^ 63 = x % 2 ^ 63 := by
  rw [Nat.xor_mod_two_pow, Nat.mod_self, Nat.xor_zero]
theorem flip_sg (x : Nat) : sg (x ^^^ 2 ^ 63) = !sg x := by
  have h : ∀ y, sg y = y.testBit 63 := by
    intro y
    unfold sg
    rw [Nat.testBit_eq_decide_div_mod_eq]
    by_cases c : y / 2 ^ 63 % 2 = 1
    · rw [decide_eq_true c, c]; rfl
    · rw [decide_eq_false c, beq_eq_false_iff_ne]; exact c
  rw [h, h, Nat.testBit_xor, Nat.testBit_two_pow_self, Bool.xor_true]
theorem flip_isN (x : Nat) : isN (x ^^^ 2 ^ 63) = isN x := by unfold isN; rw [flip_rung]
theorem flip_K (x : Nat) : K (x ^^^ 2 ^ 63) = -K x := by
  unfold K
  rw [flip_rung, flip_sg]
  cases sg x
  · rfl
  · simp
theorem flip_fixE (x : Nat) : fixE (x ^^^ 2 ^ 63) = fixE x := by unfold fixE; rw [flip_isN]

theorem fixN_of {x : Nat} (h : isN x = false) : fixN x = if 32768 * (UN : Int) ≤ K x then 2147483647 else if K x ≤ -(32768 * (UN : Int)) then -2147483648 else min (rnd (65536 * K x)) 2147483647 := by
  unfold fixN
  rw [h]
  rfl

theorem fixN_bounds (x : Nat) : -2147483648 ≤ fixN x ∧ fixN x ≤ 2147483647 := by
  cases h : isN x
  · rw [fixN_of h]
    by_cases c1 : 32768 * (UN : Int) ≤ K x
    · rw [if_pos c1]; omega
    · rw [if_neg c1]
      by_cases c2 : K x ≤ -(32768 * (UN : Int))
      · rw [if_pos c2]; omega
      · rw [if_neg c2]
        have := rnd_bound (Y := 65536 * K x) (by omega)
        omega
  · have : fixN x = 0 := by unfold fixN; rw [h]; rfl
    omega

theorem flip_fixN {x : Nat} (h : isN x = false) : fixN x = -fixN (x ^^^ 2 ^ 63) ∨ fixN x = 2147483647 ∨ fixN (x ^^^ 2 ^ 63) = 2147483647 := by
  have hU := UN_pos
  rw [fixN_of h, fixN_of (by rw [flip_isN]; exact h), flip_K]
  by_cases c1 : 32768 * (UN : Int) ≤ K x
  · right; left; rw [if_pos c1]
  · by_cases c2 : 32768 * (UN : Int) ≤ -K x
    · right; right; rw [if_pos c2]
    · rw [if_neg c1, if_neg c2, if_neg (by omega), if_neg (by omega), show 65536 * -K x = -(65536 * K x) by omega, rnd_neg]
      generalize rnd (65536 * K x) = R
      omega

/-! Words that are no numbers. -/
def badN (n : Int) : Nat := 9218868437227405313 ||| (n.toNat &&& 9227875636482146303)
theorem bad_isN (n : Int) : isN (badN n) = true := by
  unfold isN badN
  rw [Nat.or_mod_two_pow, decide_eq_true_eq]
  have := @Nat.left_le_or (9218868437227405313 % 2 ^ 63) ((n.toNat &&& 9227875636482146303) % 2 ^ 63)
  omega
theorem bad_lt (n : Int) : badN n < 2 ^ 64 := by
  unfold badN
  exact Nat.or_lt_two_pow (by decide) (Nat.and_lt_two_pow _ (by decide))
theorem bad_bits (n : Int) (h0 : 0 ≤ n) (h1 : n ≤ 18446744073709551615) : bits .or .u64 9218868437227405313 (bits .and .u64 n 9227875636482146303) = ((badN n : Nat) : Int) := by
  have hb : n.toNat &&& 9227875636482146303 < 2 ^ 64 := Nat.and_lt_two_pow _ (by decide)
  rw [u64_and n 9227875636482146303 h0 (by omega) (by decide) (by decide)]
  exact u64_or_nat 9218868437227405313 (n.toNat &&& 9227875636482146303) (by decide) hb

theorem walk (a0 : Nat) (a1 : Int) (w0 : (Lit.float .f64 a0).wf = true) (w1 : (Lit.int .u64 a1).wf = true) (w : World) :
    Calls Try.prog 8 #[.float .f64 a0, .int .u64 a1] w fun e w' => e = .returned (.bool true) ∧ Grown w w' := by
  have b1 := bounds_u64 w1
  have eb := bad_bits a1 b1.1 b1.2
  have ib := bad_isN a1
  have wb : (Lit.float .f64 (badN a1)).wf = true := wf_of_lt .f64 _ (bad_lt a1)
  obtain ⟨B, eB⟩ : ∃ B, badN a1 = B := ⟨_, rfl⟩
  rw [eB] at eb ib wb
  have t1 : fixE B = 28 := by unfold fixE; rw [ib]; rfl
  have t2 : sameB B 9221120237041090561 = true := by unfold sameB; rw [ib, show isN 9221120237041090561 = true by decide +kernel]; rfl
  have t3 : lessB B 18442240474082181120 = true := by unfold lessB; rw [ib, show isN 18442240474082181120 = false by decide +kernel]; rfl
  have fb := frombits_run (B : Int)
  rw [Int.toNat_natCast] at fb
  have v1 : (Lit.float .f64 9221120237041090561).wf = true := by decide
  have v2 : (Lit.float .f64 18442240474082181120).wf = true := by decide
  have hneg : ∀ w, (Op.unary .neg (.float .f64 a0)).run Try.prog w = .ok (.float .f64 (a0 ^^^ 2 ^ 63)) w := fun w => rfl
  have ee := flip_fixE a0
  have bx := fixN_bounds a0
  have by' := fixN_bounds (a0 ^^^ 2 ^ 63)
  cases na : isN a0
  · have e0 : fixE a0 = 0 := by unfold fixE; rw [na]; rfl
    have fl := flip_fixN na
    obtain ⟨Y, eY⟩ : ∃ Y, a0 ^^^ 2 ^ 63 = Y := ⟨_, rfl⟩
    rw [eY] at hneg ee by' fl
    rw [e0] at ee
    obtain ⟨p, ep⟩ : ∃ p, fixN a0 = p := ⟨_, rfl⟩
    obtain ⟨q, eq⟩ : ∃ q, fixN Y = q := ⟨_, rfl⟩
    rw [ep] at bx fl
    rw [eq] at by' fl
    by_cases c1 : p = -q
    · clear fl
      subst c1
      go_enter Try.func8, Try.ntmps8
      go_wp2_with (first | (go_at_call 18; refine (works_call _).mono ?_; rintro e w' ⟨rfl, rfl⟩) | (go_at_call 9; refine (fix_call _ _).mono ?_; rintro e w' ⟨rfl, rfl⟩) | (go_at_call 20; refine (nan_call _).mono ?_; rintro e w' ⟨rfl, rfl⟩) | (go_at_call 21; refine (minf_call _).mono ?_; rintro e w' ⟨rfl, rfl⟩) | (go_at_call 14; refine (same_call _ _ (by assumption) (by assumption) _).mono ?_; rintro e w' ⟨rfl, rfl⟩) | (go_at_call 16; refine (less_call _ _ (by assumption) (by assumption) _).mono ?_; rintro e w' ⟨rfl, rfl⟩))
      all_goals go_ret
      all_goals exact ⟨rfl, by repeat (first | exact Grown.refl _ | apply Grown.drew | apply Grown.alloc)⟩
    · have c1' : (p != -q) = true := by simp [c1]
      rcases fl with fl | fl | fl
      · exact absurd fl c1
      · subst fl
        go_enter Try.func8, Try.ntmps8
        go_wp2_with (first | (go_at_call 18; refine (works_call _).mono ?_; rintro e w' ⟨rfl, rfl⟩) | (go_at_call 9; refine (fix_call _ _).mono ?_; rintro e w' ⟨rfl, rfl⟩) | (go_at_call 20; refine (nan_call _).mono ?_; rintro e w' ⟨rfl, rfl⟩) | (go_at_call 21; refine (minf_call _).mono ?_; rintro e w' ⟨rfl, rfl⟩) | (go_at_call 14; refine (same_call _ _ (by assumption) (by assumption) _).mono ?_; rintro e w' ⟨rfl, rfl⟩) | (go_at_call 16; refine (less_call _ _ (by assumption) (by assumption) _).mono ?_; rintro e w' ⟨rfl, rfl⟩))
        all_goals go_ret
        all_goals exact ⟨rfl, by repeat (first | exact Grown.refl _ | apply Grown.drew | apply Grown.alloc)⟩
      · subst fl
        by_cases c2 : p = 2147483647
        · subst c2
          go_enter Try.func8, Try.ntmps8
          go_wp2_with (first | (go_at_call 18; refine (works_call _).mono ?_; rintro e w' ⟨rfl, rfl⟩) | (go_at_call 9; refine (fix_call _ _).mono ?_; rintro e w' ⟨rfl, rfl⟩) | (go_at_call 20; refine (nan_call _).mono ?_; rintro e w' ⟨rfl, rfl⟩) | (go_at_call 21; refine (minf_call _).mono ?_; rintro e w' ⟨rfl, rfl⟩) | (go_at_call 14; refine (same_call _ _ (by assumption) (by assumption) _).mono ?_; rintro e w' ⟨rfl, rfl⟩) | (go_at_call 16; refine (less_call _ _ (by assumption) (by assumption) _).mono ?_; rintro e w' ⟨rfl, rfl⟩))
          all_goals go_ret
          all_goals exact ⟨rfl, by repeat (first | exact Grown.refl _ | apply Grown.drew | apply Grown.alloc)⟩
        · have c2' : (p != 2147483647) = true := by simp [c2]
          go_enter Try.func8, Try.ntmps8
          go_wp2_with (first | (go_at_call 18; refine (works_call _).mono ?_; rintro e w' ⟨rfl, rfl⟩) | (go_at_call 9; refine (fix_call _ _).mono ?_; rintro e w' ⟨rfl, rfl⟩) | (go_at_call 20; refine (nan_call _).mono ?_; rintro e w' ⟨rfl, rfl⟩) | (go_at_call 21; refine (minf_call _).mono ?_; rintro e w' ⟨rfl, rfl⟩) | (go_at_call 14; refine (same_call _ _ (by assumption) (by assumption) _).mono ?_; rintro e w' ⟨rfl, rfl⟩) | (go_at_call 16; refine (less_call _ _ (by assumption) (by assumption) _).mono ?_; rintro e w' ⟨rfl, rfl⟩))
          all_goals go_ret
          all_goals exact ⟨rfl, by repeat (first | exact Grown.refl _ | apply Grown.drew | apply Grown.alloc)⟩
  · have e0 : fixE a0 = 28 := by unfold fixE; rw [na]; rfl
    rw [e0] at ee
    obtain ⟨Y, eY⟩ : ∃ Y, a0 ^^^ 2 ^ 63 = Y := ⟨_, rfl⟩
    rw [eY] at hneg ee by'
    go_enter Try.func8, Try.ntmps8
    go_wp2_with (first | (go_at_call 18; refine (works_call _).mono ?_; rintro e w' ⟨rfl, rfl⟩) | (go_at_call 9; refine (fix_call _ _).mono ?_; rintro e w' ⟨rfl, rfl⟩) | (go_at_call 20; refine (nan_call _).mono ?_; rintro e w' ⟨rfl, rfl⟩) | (go_at_call 21; refine (minf_call _).mono ?_; rintro e w' ⟨rfl, rfl⟩) | (go_at_call 14; refine (same_call _ _ (by assumption) (by assumption) _).mono ?_; rintro e w' ⟨rfl, rfl⟩) | (go_at_call 16; refine (less_call _ _ (by assumption) (by assumption) _).mono ?_; rintro e w' ⟨rfl, rfl⟩))
    all_goals go_ret
    all_goals exact ⟨rfl, by repeat (first | exact Grown.refl _ | apply Grown.drew | apply Grown.alloc)⟩

set_option maxRecDepth 100000 in
theorem lifted (os : Os) (started : os.Started) (H : Type) (enc : TypeId × Value → H) :
    ReturnsInHanded {} Try.checked os 8 .any (Rows.knobSignsSpec.pre6 enc Try.prog Try.f8 Rows.knobSignsRow.domain false) (Rows.knobSignsSpec.post enc Try.prog Try.f8 false true false false) := by
  refine returnsInHanded_of_change (C := Try.checked) own started (by kernel_rfl) Try.func8
    (ChangeSpec.witness6 (enc := enc) (C := Try.checked) false ⟨#[], #[.float .f64 0, .int .u64 0], []⟩ 8 (by kernel_rfl) (by kernel_rfl) (by kernel_rfl) (by kernel_rfl)) ?_
  intro W base args ds gs before hval0 hW hcnd _
  have hval : ∀ (j : Nat) t v, Try.f8.params[j]? = some t → args[j]? = some v → Value.okWide Try.prog W .any base t v := hval0
  have hW' := hW
  obtain ⟨p, q, hA0, hV, rfl, hfz, hnd⟩ := hW
  have hA : DataW.TrodAll enc Try.prog W 0 (fun _ => true) true Try.f8.params.toList args.toList ds p := hA0
  rw [Try.params8] at hA hval
  obtain ⟨v0, vs0, d0, ds0, p0, q0, hargs, rfl, rfl, h0, r0⟩ := trodAll_cons hA
  obtain ⟨v1, vs1, d1, ds1, p1, q1, rfl, rfl, rfl, h1, r1⟩ := trodAll_cons r0
  obtain ⟨rfl, rfl, rfl⟩ := trodAll_nil r1
  obtain rfl : args = #[v0, v1] := by cases args; simp_all
  obtain ⟨rfl, rfl⟩ := trodVars_none hV
  obtain ⟨a0, rfl, rfl, rfl, w0⟩ := open_float Try.underlying22 (hval 0 22 v0 rfl rfl) h0
  obtain ⟨a1, rfl, rfl, rfl, w1⟩ := open_int Try.underlying33 (hval 1 33 v1 rfl rfl) h1
  clear hA0 hval0
  simp only [List.append_nil] at hW'
  refine (walk a0 a1 w0 w1 W).mono fun e W' ⟨he, hg⟩ => ?_
  subst he
  exact ⟨_, rfl, post_of_same (pa := []) (pv := []) hW' (fun _ _ _ => (trodAll_cons_mk (shut_bool Try.underlying4 _) trodAll_mk0)) (fun sp _ => (trodAll_cons_mk (shut_float Try.underlying22 w0) (trodAll_cons_mk (shut_int Try.underlying33 w1) trodAll_mk0))) (fun _ _ => rfl) rfl
    (hg.frame _) hg.2.1 (ok_one (by kernel_rfl) rfl (okWide_bool_mk Try.underlying4 _))⟩

theorem over : Rows.knobSignsRow.holds Try.pinned (OpenSpec.ofChange Rows.knobSignsSpec) :=
  OpenClaim.holds_of_wide 8 Try.f8 rfl rfl rfl rfl rfl rfl rfl ⟨rfl, rfl, rfl, rfl, rfl⟩ rfl rfl rfl rfl rfl (by kernel_rfl) Try.func8 (by kernel_rfl)
    (of_decide_eq_true (by kernel_rfl)) (by unfold Func.isWrapper; first | (rw [if_pos (by decide +kernel)]; kernel_rfl) | (rw [if_neg (by decide +kernel)]; exact ⟨rfl, rfl⟩))
    (fun os started H enc _ => lifted os started H enc)

theorem proved : Rows.KnobSignsSaid :=
  over
#print axioms proved
end Go.Proofs.Ytcjenapnnldboaa.knobSigns
