/- For every two numbers of the type float64 the Go function KnobRises returns true (where numbers rise, what Fix makes of them does not fall, and it is off by half a step at most) and leaves its arguments as they were; no condition. -/
import Derived.Test.YtcjenapnnldboaaRows
import Derived.Test.YtcjenapnnldboaaFloats
import Derived.Test.YtcjenapnnldboaaExact
import Derived.Test.YtcjenapnnldboaaOps
import Derived.Test.YtcjenapnnldboaaRound
import Derived.Test.YtcjenapnnldboaaCalls
import Derived.Test.YtcjenapnnldboaaFixes
import Derived.Test.YtcjenapnnldboaaWorks
import Derived.WalkKit
import Derived.ProofKit
import Derived.OpenShut
import Derived.WalkLawsBesides
namespace Go.Proofs.Ytcjenapnnldboaa.knobRises
open Go.ChangeShapes Go.WideShapes Go.ChangeAt Go.RowKit
set_option linter.unusedVariables false
set_option linter.unusedSimpArgs false

theorem own : ownKnob Try.prog.godebug = none := by kernel_rfl

theorem fixN_of {x : Nat} (h : isN x = false) : fixN x = if 32768 * (UN : Int) ≤ K x then 2147483647 else if K x ≤ -(32768 * (UN : Int)) then -2147483648 else min (rnd (65536 * K x)) 2147483647 := by
  unfold fixN
  rw [h]
  rfl

theorem fixN_mono {a b : Nat} (na : isN a = false) (nb : isN b = false) (h : K a ≤ K b) : fixN a ≤ fixN b := by
  rw [fixN_of na, fixN_of nb]
  have hU := UN_pos
  by_cases b1 : 32768 * (UN : Int) ≤ K b
  · rw [if_pos b1]
    split
    · omega
    · split <;> omega
  · rw [if_neg b1, if_neg (show ¬ 32768 * (UN : Int) ≤ K a by omega)]
    by_cases a1 : K a ≤ -(32768 * (UN : Int))
    · rw [if_pos a1]
      by_cases b2 : K b ≤ -(32768 * (UN : Int))
      · rw [if_pos b2]; omega
      · rw [if_neg b2]
        have := rnd_bound (Y := 65536 * K b) (by omega)
        omega
    · rw [if_neg a1, if_neg (show ¬ K b ≤ -(32768 * (UN : Int)) by omega)]
      have := rnd_mono (show 65536 * K a ≤ 65536 * K b by omega)
      omega

theorem isN_a : isN 4674736138332667904 = false := by decide +kernel
theorem isN_b : isN 13898108175187443712 = false := by decide +kernel
theorem K_a : K 4674736138332667904 = 32767 * (UN : Int) := by decide +kernel
theorem K_b : K 13898108175187443712 = -(32767 * (UN : Int)) := by decide +kernel

theorem fixE_not {x : Nat} (h : isN x = false) : fixE x = 0 := by unfold fixE; rw [h]; rfl
theorem fixE_nan {x : Nat} (h : isN x = true) : fixE x = 28 := by unfold fixE; rw [h]; rfl

theorem walk (a0 : Nat) (a1 : Nat) (w0 : (Lit.float .f64 a0).wf = true) (w1 : (Lit.float .f64 a1).wf = true) (w : World) :
    Calls Try.prog 7 #[.float .f64 a0, .float .f64 a1] w fun e w' => e = .returned (.bool true) ∧ Grown w w' := by
  have s0 := cmp_self a0
  have s1 := cmp_self a1
  cases na : isN a0
  · have e0 := fixE_not na
    rw [na] at s0
    cases nb : isN a1
    · have e1 := fixE_not nb
      rw [nb] at s1
      have hle := cmp_le na nb
      have hmono : K a0 ≤ K a1 → (decide (fixN a1 < fixN a0)) = false := fun h => decide_eq_false (by have := fixN_mono na nb h; omega)
      have g1 := cmp_ge na isN_a
      have g2 := cmp_le na isN_b
      rw [K_a] at g1
      rw [K_b] at g2
      by_cases c0 : 32767 * (UN : Int) ≤ K a0
      · rw [decide_eq_true c0] at g1
        clear c0 g2
        by_cases c1 : K a0 ≤ K a1
        · have hm := hmono c1
          rw [decide_eq_true c1] at hle
          clear hmono c1
          go_enter Try.func7, Try.ntmps7
          go_wp2_with (first | (go_at_call 18; refine (works_call _).mono ?_; rintro e w' ⟨rfl, rfl⟩) | (go_at_call 9; refine (fix_call _ _).mono ?_; rintro e w' ⟨rfl, rfl⟩))
          all_goals go_ret
          all_goals exact ⟨rfl, by repeat (first | exact Grown.refl _ | apply Grown.drew | apply Grown.alloc)⟩
        · rw [decide_eq_false c1] at hle
          clear hmono c1
          go_enter Try.func7, Try.ntmps7
          go_wp2_with (first | (go_at_call 18; refine (works_call _).mono ?_; rintro e w' ⟨rfl, rfl⟩) | (go_at_call 9; refine (fix_call _ _).mono ?_; rintro e w' ⟨rfl, rfl⟩))
          all_goals go_ret
          all_goals exact ⟨rfl, by repeat (first | exact Grown.refl _ | apply Grown.drew | apply Grown.alloc)⟩
      · rw [decide_eq_false c0] at g1
        by_cases c2 : K a0 ≤ -(32767 * (UN : Int))
        · rw [decide_eq_true c2] at g2
          clear c0 c2
          by_cases c1 : K a0 ≤ K a1
          · have hm := hmono c1
            rw [decide_eq_true c1] at hle
            clear hmono c1
            go_enter Try.func7, Try.ntmps7
            go_wp2_with (first | (go_at_call 18; refine (works_call _).mono ?_; rintro e w' ⟨rfl, rfl⟩) | (go_at_call 9; refine (fix_call _ _).mono ?_; rintro e w' ⟨rfl, rfl⟩))
            all_goals go_ret
            all_goals exact ⟨rfl, by repeat (first | exact Grown.refl _ | apply Grown.drew | apply Grown.alloc)⟩
          · rw [decide_eq_false c1] at hle
            clear hmono c1
            go_enter Try.func7, Try.ntmps7
            go_wp2_with (first | (go_at_call 18; refine (works_call _).mono ?_; rintro e w' ⟨rfl, rfl⟩) | (go_at_call 9; refine (fix_call _ _).mono ?_; rintro e w' ⟨rfl, rfl⟩))
            all_goals go_ret
            all_goals exact ⟨rfl, by repeat (first | exact Grown.refl _ | apply Grown.drew | apply Grown.alloc)⟩
        · rw [decide_eq_false c2] at g2
          have hU := UN_pos
          have hb : (K a0).natAbs ≤ 32768 * UN := by omega
          have fx := fin_of_K na hb
          obtain ⟨r, er, fr, kr⟩ := mul_exact fx hb
          have rb1 := rnd_mono (show 65536 * K a0 ≤ 2147418112 * (UN : Int) by omega)
          have rb2 := rnd_mono (show -2147418112 * (UN : Int) ≤ 65536 * K a0 by omega)
          rw [rnd_whole] at rb1 rb2
          have eN : fixN a0 = rnd (K r) := by
            unfold fixN
            rw [na, if_neg (by decide), if_neg (by omega), if_neg (by omega), kr]
            omega
          have near := rnd_near (K r)
          have hH := UN_two
          rw [← eN] at near
          have nbd : (fixN a0).natAbs < 2 ^ 53 := by rw [eN, kr]; omega
          obtain ⟨d, ed, fd, kd⟩ := sub_whole fr (fixN a0) nbd near.2 (by omega)
          have nd := fin_not fd
          have q1 := cmp_le nd isN_half
          have q2 := cmp_ge nd isN_mhalf
          rw [K_half, decide_eq_true (by omega)] at q1
          rw [K_mhalf, decide_eq_true (by omega)] at q2
          have hm1 : ∀ t w, (binOp .mul t (.float .f64 a0) (.float .f64 4679240012837945344)).run Try.prog w = .ok (.float .f64 r) w := fun t w => run_float_arith w .mul t .f64 a0 _ r er
          have hs1 : ∀ t w, (binOp .sub t (.float .f64 r) (.float .f64 (floatOfInt .f64 (fixN a0)))).run Try.prog w = .ok (.float .f64 d) w := fun t w => run_float_arith w .sub t .f64 r _ d ed
          clear c0 c2 hU hb fx er fr kr rb1 rb2 eN near hH nbd ed fd kd nd
          by_cases c1 : K a0 ≤ K a1
          · have hm := hmono c1
            rw [decide_eq_true c1] at hle
            clear hmono c1
            go_enter Try.func7, Try.ntmps7
            go_wp2_with (first | (go_at_call 18; refine (works_call _).mono ?_; rintro e w' ⟨rfl, rfl⟩) | (go_at_call 9; refine (fix_call _ _).mono ?_; rintro e w' ⟨rfl, rfl⟩))
            all_goals go_ret
            all_goals exact ⟨rfl, by repeat (first | exact Grown.refl _ | apply Grown.drew | apply Grown.alloc)⟩
          · rw [decide_eq_false c1] at hle
            clear hmono c1
            go_enter Try.func7, Try.ntmps7
            go_wp2_with (first | (go_at_call 18; refine (works_call _).mono ?_; rintro e w' ⟨rfl, rfl⟩) | (go_at_call 9; refine (fix_call _ _).mono ?_; rintro e w' ⟨rfl, rfl⟩))
            all_goals go_ret
            all_goals exact ⟨rfl, by repeat (first | exact Grown.refl _ | apply Grown.drew | apply Grown.alloc)⟩
    · have e1 := fixE_nan nb
      rw [nb] at s1
      go_enter Try.func7, Try.ntmps7
      go_wp2_with (first | (go_at_call 18; refine (works_call _).mono ?_; rintro e w' ⟨rfl, rfl⟩) | (go_at_call 9; refine (fix_call _ _).mono ?_; rintro e w' ⟨rfl, rfl⟩))
      all_goals go_ret
      all_goals exact ⟨rfl, by repeat (first | exact Grown.refl _ | apply Grown.drew | apply Grown.alloc)⟩
  · have e0 := fixE_nan na
    rw [na] at s0
    cases nb : isN a1
    · have e1 := fixE_not nb
      rw [nb] at s1
      go_enter Try.func7, Try.ntmps7
      go_wp2_with (first | (go_at_call 18; refine (works_call _).mono ?_; rintro e w' ⟨rfl, rfl⟩) | (go_at_call 9; refine (fix_call _ _).mono ?_; rintro e w' ⟨rfl, rfl⟩))
      all_goals go_ret
      all_goals exact ⟨rfl, by repeat (first | exact Grown.refl _ | apply Grown.drew | apply Grown.alloc)⟩
    · have e1 := fixE_nan nb
      rw [nb] at s1
      go_enter Try.func7, Try.ntmps7
      go_wp2_with (first | (go_at_call 18; refine (works_call _).mono ?_; rintro e w' ⟨rfl, rfl⟩) | (go_at_call 9; refine (fix_call _ _).mono ?_; rintro e w' ⟨rfl, rfl⟩))
      all_goals go_ret
      all_goals exact ⟨rfl, by repeat (first | exact Grown.refl _ | apply Grown.drew | apply Grown.alloc)⟩

set_option maxRecDepth 100000 in
theorem lifted (os : Os) (started : os.Started) (H : Type) (enc : TypeId × Value → H) :
    ReturnsInHanded {} Try.checked os 7 .any (Rows.knobRisesSpec.pre6 enc Try.prog Try.f7 Rows.knobRisesRow.domain false) (Rows.knobRisesSpec.post enc Try.prog Try.f7 false true false false) := by
  refine returnsInHanded_of_change (C := Try.checked) own started (by kernel_rfl) Try.func7
    (ChangeSpec.witness6 (enc := enc) (C := Try.checked) false ⟨#[], #[.float .f64 0, .float .f64 0], []⟩ 8 (by kernel_rfl) (by kernel_rfl) (by kernel_rfl) (by kernel_rfl)) ?_
  intro W base args ds gs before hval0 hW hcnd _
  have hval : ∀ (j : Nat) t v, Try.f7.params[j]? = some t → args[j]? = some v → Value.okWide Try.prog W .any base t v := hval0
  have hW' := hW
  obtain ⟨p, q, hA0, hV, rfl, hfz, hnd⟩ := hW
  have hA : DataW.TrodAll enc Try.prog W 0 (fun _ => true) true Try.f7.params.toList args.toList ds p := hA0
  rw [Try.params7] at hA hval
  obtain ⟨v0, vs0, d0, ds0, p0, q0, hargs, rfl, rfl, h0, r0⟩ := trodAll_cons hA
  obtain ⟨v1, vs1, d1, ds1, p1, q1, rfl, rfl, rfl, h1, r1⟩ := trodAll_cons r0
  obtain ⟨rfl, rfl, rfl⟩ := trodAll_nil r1
  obtain rfl : args = #[v0, v1] := by cases args; simp_all
  obtain ⟨rfl, rfl⟩ := trodVars_none hV
  obtain ⟨a0, rfl, rfl, rfl, w0⟩ := open_float Try.underlying22 (hval 0 22 v0 rfl rfl) h0
  obtain ⟨a1, rfl, rfl, rfl, w1⟩ := open_float Try.underlying22 (hval 1 22 v1 rfl rfl) h1
  clear hA0 hval0
  simp only [List.append_nil] at hW'
  refine (walk a0 a1 w0 w1 W).mono fun e W' ⟨he, hg⟩ => ?_
  subst he
  exact ⟨_, rfl, post_of_same (pa := []) (pv := []) hW' (fun _ _ _ => (trodAll_cons_mk (shut_bool Try.underlying4 _) trodAll_mk0)) (fun sp _ => (trodAll_cons_mk (shut_float Try.underlying22 w0) (trodAll_cons_mk (shut_float Try.underlying22 w1) trodAll_mk0))) (fun _ _ => rfl) rfl
    (hg.frame _) hg.2.1 (ok_one (by kernel_rfl) rfl (okWide_bool_mk Try.underlying4 _))⟩

theorem over : Rows.knobRisesRow.holds Try.pinned (OpenSpec.ofChange Rows.knobRisesSpec) :=
  OpenClaim.holds_of_wide 7 Try.f7 rfl rfl rfl rfl rfl rfl rfl ⟨rfl, rfl, rfl, rfl, rfl⟩ rfl rfl rfl rfl rfl (by kernel_rfl) Try.func7 (by kernel_rfl)
    (of_decide_eq_true (by kernel_rfl)) (by unfold Func.isWrapper; first | (rw [if_pos (by decide +kernel)]; kernel_rfl) | (rw [if_neg (by decide +kernel)]; exact ⟨rfl, rfl⟩))
    (fun os started H enc _ => lifted os started H enc)

theorem proved : Rows.KnobRisesSaid :=
  over
#print axioms proved
end Go.Proofs.Ytcjenapnnldboaa.knobRises
