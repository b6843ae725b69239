/- For every three numbers of the type float64 the Go function KnobTotal returns true (of any two just one holds: Same, Less, or Less the other way; Less is transitive) and leaves its arguments as they were; no condition. -/
import Derived.Test.YtcjenapnnldboaaRows
import Derived.Test.YtcjenapnnldboaaFloats
import Derived.Test.YtcjenapnnldboaaExact
import Derived.Test.YtcjenapnnldboaaOps
import Derived.Test.YtcjenapnnldboaaRound
import Derived.Test.YtcjenapnnldboaaCalls
import Derived.Test.YtcjenapnnldboaaFixes
import Derived.Test.YtcjenapnnldboaaWorks
import Derived.WalkKit
import Derived.ProofKit
import Derived.OpenShut
import Derived.WalkLawsBesides
namespace Go.Proofs.Ytcjenapnnldboaa.knobTotal
open Go.ChangeShapes Go.WideShapes Go.ChangeAt Go.RowKit
set_option linter.unusedVariables false
set_option linter.unusedSimpArgs false

theorem own : ownKnob Try.prog.godebug = none := by kernel_rfl

theorem same_self (a : Nat) : sameB a a = true := by
  unfold sameB
  cases isN a <;> simp

/-- Of any two just one holds. -/
theorem just_one (a b : Nat) : (sameB a b = true ∧ lessB a b = false ∧ lessB b a = false) ∨ (sameB a b = false ∧ lessB a b = true ∧ lessB b a = false) ∨ (sameB a b = false ∧ lessB a b = false ∧ lessB b a = true) := by
  unfold sameB lessB
  cases isN a <;> cases isN b <;> simp only [Bool.and_self, Bool.or_self, Bool.not_false, Bool.not_true, Bool.true_and, Bool.false_and, Bool.and_false, Bool.and_true, Bool.or_false, Bool.or_true, Bool.false_or, Bool.true_or, if_true, if_false, Bool.false_eq_true]
  · rcases Int.lt_trichotomy (K a) (K b) with h | h | h
    · rw [decide_eq_false (show ¬ K a = K b by omega), if_neg (by omega), if_neg (by omega), decide_eq_true h, decide_eq_false (show ¬ K b < K a by omega)]
      simp
    · rw [decide_eq_true h, if_pos h, if_pos h.symm]
      cases sg a <;> cases sg b <;> simp
    · rw [decide_eq_false (show ¬ K a = K b by omega), if_neg (by omega), if_neg (by omega), decide_eq_true h, decide_eq_false (show ¬ K a < K b by omega)]
      simp
  all_goals simp

theorem less_trans (a b c : Nat) (h1 : lessB a b = true) (h2 : lessB b c = true) : lessB a c = true := by
  unfold lessB at *
  cases na : isN a <;> cases nb : isN b <;> cases nc : isN c <;> rw [na, nb] at h1 <;> rw [nb, nc] at h2 <;> simp only [Bool.and_self, Bool.or_self, Bool.not_false, Bool.not_true, Bool.true_and, Bool.false_and, Bool.and_false, Bool.and_true, Bool.or_false, Bool.or_true, Bool.false_or, Bool.true_or, if_true, if_false, Bool.false_eq_true] at *
  by_cases p : K a = K b
  · rw [if_pos p] at h1
    by_cases q : K b = K c
    · rw [if_pos q] at h2
      simp only [Bool.and_eq_true, Bool.not_eq_true'] at h1 h2
      rw [h1.2] at h2
      exact absurd h2.1 (by decide)
    · rw [if_neg q] at h2
      rw [if_neg (by omega), p]
      exact h2
  · rw [if_neg p] at h1
    by_cases q : K b = K c
    · rw [if_neg (by omega), ← q]
      exact h1
    · rw [if_neg q] at h2
      simp only [decide_eq_true_eq] at h1 h2
      rw [if_neg (by omega), decide_eq_true (by omega)]

theorem walk (a0 : Nat) (a1 : Nat) (a2 : Nat) (w0 : (Lit.float .f64 a0).wf = true) (w1 : (Lit.float .f64 a1).wf = true) (w2 : (Lit.float .f64 a2).wf = true) (w : World) :
    Calls Try.prog 6 #[.float .f64 a0, .float .f64 a1, .float .f64 a2] w fun e w' => e = .returned (.bool true) ∧ Grown w w' := by
  have ks := same_self a0
  have kt := less_trans a0 a1 a2
  rcases just_one a0 a1 with ⟨h1, h2, h3⟩ | ⟨h1, h2, h3⟩ | ⟨h1, h2, h3⟩
  · clear kt
    go_enter Try.func6, Try.ntmps6
    go_wp2_with (first | (go_at_call 18; refine (works_call _).mono ?_; rintro e w' ⟨rfl, rfl⟩) | (go_at_call 14; refine (same_call _ _ (by assumption) (by assumption) _).mono ?_; rintro e w' ⟨rfl, rfl⟩) | (go_at_call 16; refine (less_call _ _ (by assumption) (by assumption) _).mono ?_; rintro e w' ⟨rfl, rfl⟩))
    all_goals go_ret
    all_goals exact ⟨rfl, by repeat (first | exact Grown.refl _ | apply Grown.drew | apply Grown.alloc)⟩
  · cases h4 : lessB a1 a2
    · clear kt
      go_enter Try.func6, Try.ntmps6
      go_wp2_with (first | (go_at_call 18; refine (works_call _).mono ?_; rintro e w' ⟨rfl, rfl⟩) | (go_at_call 14; refine (same_call _ _ (by assumption) (by assumption) _).mono ?_; rintro e w' ⟨rfl, rfl⟩) | (go_at_call 16; refine (less_call _ _ (by assumption) (by assumption) _).mono ?_; rintro e w' ⟨rfl, rfl⟩))
      all_goals go_ret
      all_goals exact ⟨rfl, by repeat (first | exact Grown.refl _ | apply Grown.drew | apply Grown.alloc)⟩
    · have h5 := kt h2 h4
      clear kt
      go_enter Try.func6, Try.ntmps6
      go_wp2_with (first | (go_at_call 18; refine (works_call _).mono ?_; rintro e w' ⟨rfl, rfl⟩) | (go_at_call 14; refine (same_call _ _ (by assumption) (by assumption) _).mono ?_; rintro e w' ⟨rfl, rfl⟩) | (go_at_call 16; refine (less_call _ _ (by assumption) (by assumption) _).mono ?_; rintro e w' ⟨rfl, rfl⟩))
      all_goals go_ret
      all_goals exact ⟨rfl, by repeat (first | exact Grown.refl _ | apply Grown.drew | apply Grown.alloc)⟩
  · clear kt
    go_enter Try.func6, Try.ntmps6
    go_wp2_with (first | (go_at_call 18; refine (works_call _).mono ?_; rintro e w' ⟨rfl, rfl⟩) | (go_at_call 14; refine (same_call _ _ (by assumption) (by assumption) _).mono ?_; rintro e w' ⟨rfl, rfl⟩) | (go_at_call 16; refine (less_call _ _ (by assumption) (by assumption) _).mono ?_; rintro e w' ⟨rfl, rfl⟩))
    all_goals go_ret
    all_goals exact ⟨rfl, by repeat (first | exact Grown.refl _ | apply Grown.drew | apply Grown.alloc)⟩

set_option maxRecDepth 100000 in
theorem lifted (os : Os) (started : os.Started) (H : Type) (enc : TypeId × Value → H) :
    ReturnsInHanded {} Try.checked os 6 .any (Rows.knobTotalSpec.pre6 enc Try.prog Try.f6 Rows.knobTotalRow.domain false) (Rows.knobTotalSpec.post enc Try.prog Try.f6 false true false false) := by
  refine returnsInHanded_of_change (C := Try.checked) own started (by kernel_rfl) Try.func6
    (ChangeSpec.witness6 (enc := enc) (C := Try.checked) false ⟨#[], #[.float .f64 0, .float .f64 0, .float .f64 0], []⟩ 8 (by kernel_rfl) (by kernel_rfl) (by kernel_rfl) (by kernel_rfl)) ?_
  intro W base args ds gs before hval0 hW hcnd _
  have hval : ∀ (j : Nat) t v, Try.f6.params[j]? = some t → args[j]? = some v → Value.okWide Try.prog W .any base t v := hval0
  have hW' := hW
  obtain ⟨p, q, hA0, hV, rfl, hfz, hnd⟩ := hW
  have hA : DataW.TrodAll enc Try.prog W 0 (fun _ => true) true Try.f6.params.toList args.toList ds p := hA0
  rw [Try.params6] at hA hval
  obtain ⟨v0, vs0, d0, ds0, p0, q0, hargs, rfl, rfl, h0, r0⟩ := trodAll_cons hA
  obtain ⟨v1, vs1, d1, ds1, p1, q1, rfl, rfl, rfl, h1, r1⟩ := trodAll_cons r0
  obtain ⟨v2, vs2, d2, ds2, p2, q2, rfl, rfl, rfl, h2, r2⟩ := trodAll_cons r1
  obtain ⟨rfl, rfl, rfl⟩ := trodAll_nil r2
  obtain rfl : args = #[v0, v1, v2] := by cases args; simp_all
  obtain ⟨rfl, rfl⟩ := trodVars_none hV
  obtain ⟨a0, rfl, rfl, rfl, w0⟩ := open_float Try.underlying22 (hval 0 22 v0 rfl rfl) h0
  obtain ⟨a1, rfl, rfl, rfl, w1⟩ := open_float Try.underlying22 (hval 1 22 v1 rfl rfl) h1
  obtain ⟨a2, rfl, rfl, rfl, w2⟩ := open_float Try.underlying22 (hval 2 22 v2 rfl rfl) h2
  clear hA0 hval0
  simp only [List.append_nil] at hW'
  refine (walk a0 a1 a2 w0 w1 w2 W).mono fun e W' ⟨he, hg⟩ => ?_
  subst he
  exact ⟨_, rfl, post_of_same (pa := []) (pv := []) hW' (fun _ _ _ => (trodAll_cons_mk (shut_bool Try.underlying4 _) trodAll_mk0)) (fun sp _ => (trodAll_cons_mk (shut_float Try.underlying22 w0) (trodAll_cons_mk (shut_float Try.underlying22 w1) (trodAll_cons_mk (shut_float Try.underlying22 w2) trodAll_mk0)))) (fun _ _ => rfl) rfl
    (hg.frame _) hg.2.1 (ok_one (by kernel_rfl) rfl (okWide_bool_mk Try.underlying4 _))⟩

theorem over : Rows.knobTotalRow.holds Try.pinned (OpenSpec.ofChange Rows.knobTotalSpec) :=
  OpenClaim.holds_of_wide 6 Try.f6 rfl rfl rfl rfl rfl rfl rfl ⟨rfl, rfl, rfl, rfl, rfl⟩ rfl rfl rfl rfl rfl (by kernel_rfl) Try.func6 (by kernel_rfl)
    (of_decide_eq_true (by kernel_rfl)) (by unfold Func.isWrapper; first | (rw [if_pos (by decide +kernel)]; kernel_rfl) | (rw [if_neg (by decide +kernel)]; exact ⟨rfl, rfl⟩))
    (fun os started H enc _ => lifted os started H enc)

theorem proved : Rows.KnobTotalSaid :=
  over
#print axioms proved
end Go.Proofs.Ytcjenapnnldboaa.knobTotal
