/- What holds of the best beams: plain. -/
import Derived.Test.YteeljnibglnflaaRows
import Derived.Test.YteeljnibglnflaaSat
import Derived.Test.YteeljnibglnflaaRanks
import Derived.Test.YteeljnibglnflaaBmZ
import Derived.Test.YteeljnibglnflaaBmPre
import Derived.WalkKit
import Derived.ProofKit
import Derived.OpenShut
import Derived.WalkLawsBesides
import Derived.Below
import Derived.Deep.QuietTactic
import Derived.BigQuiet
import Derived.Laws.AppendOwnNone
namespace Go.Proofs.Yteeljnibglnflaa
set_option maxRecDepth 20000
open Go.ChangeShapes Go.WideShapes Go.ChangeAt Go.RowKit
set_option linter.unusedVariables false
set_option linter.unusedSimpArgs false

theorem growE_ok {L : Nat → Bm} {n : Nat} {R : Nat → List Int} {m : Nat} {width : Int} (h : growE L n R m width = 0) : 1 ≤ width ∧ width ≤ 4 ∧ 0 < n ∧ m = liveTo L n ∧ ∀ r, r < m → 0 < (R r).length := by
  unfold growE at h
  by_cases h1 : width < 1 ∨ 4 < width
  · rw [if_pos h1] at h; omega
  · rw [if_neg h1] at h
    by_cases h2 : fitB L n R m = true
    · have h3 := h2
      unfold fitB at h3
      simp only [Bool.and_eq_true, decide_eq_true_eq, List.all_eq_true, List.mem_range] at h3
      exact ⟨by omega, by omega, h3.1.1, h3.1.2, h3.2⟩
    · rw [if_neg h2] at h; omega

theorem cand_some {L : Nat → Bm} {n : Nat} {R : Nat → List Int} {m : Nat} {width : Int} (len stop : Int) (h : growE L n R m width = 0) : 0 < (candTo L R len stop n).length := by
  obtain ⟨-, -, h0, hm, hr⟩ := growE_ok h
  have e : ∀ i, i ≤ n → 0 < i → 0 < (candTo L R len stop i).length := fun i hi h0 => by
    obtain ⟨k, rfl⟩ : ∃ k, i = k + 1 := ⟨i - 1, by omega⟩
    rw [candTo, List.length_append]
    have : 0 < (candOf L R len stop k).length := by
      unfold candOf
      split
      · simp
      · rename_i hf
        rw [grownTo_length]
        have := liveTo_live L (show k < n by omega) (by simpa using hf)
        exact hr _ (by omega)
    omega
  exact e n (Nat.le_refl _) h0

theorem growL_len {L : Nat → Bm} {n : Nat} {R : Nat → List Int} {m : Nat} {width : Int} (len stop : Int) (h : growE L n R m width = 0) : 1 ≤ (growL L n R m width len stop).length ∧ ((growL L n R m width len stop).length : Int) ≤ width := by
  have h1 := cand_some len stop h
  have h2 := growE_ok h
  unfold growL
  rw [if_pos h, bestZ_length]
  omega

theorem places_fall (xs : List Int) {i : Nat} (h : i + 1 < xs.length) : xs.getD ((places xs).getD (i + 1) 0) 0 ≤ xs.getD ((places xs).getD i 0) 0 := by
  have P := places_ordered xs
  have hl := P.length
  have := List.pairwise_iff_getElem.1 P.2 i (i + 1) (by omega) (by omega) (by omega)
  rw [ahead_iff] at this
  have e1 : (places xs).getD i 0 = (places xs)[i] := by simp [List.getD, show i < (places xs).length by omega]
  have e2 : (places xs).getD (i + 1) 0 = (places xs)[i + 1] := by simp [List.getD, show i + 1 < (places xs).length by omega]
  rw [e1, e2]
  omega

/-- what BeamOrder asks of each of the best -/
theorem ord_plain {L : Nat → Bm} {n : Nat} {R : Nat → List Int} {m : Nat} {width : Int} (len stop : Int) (h : growE L n R m width = 0) {i : Nat} (hi : i < (growL L n R m width len stop).length) :
    ((growL L n R m width len stop).getD i c0).p < n ∧ (0 < i → ((growL L n R m width len stop).getD i c0).s ≤ ((growL L n R m width len stop).getD (i - 1) c0).s) ∧
    ((L ((growL L n R m width len stop).getD i c0).p).f = true → ((growL L n R m width len stop).getD i c0).f = true ∧ ((growL L n R m width len stop).getD i c0).k = -1 ∧ ((growL L n R m width len stop).getD i c0).s = (L ((growL L n R m width len stop).getD i c0).p).s) ∧
    ((L ((growL L n R m width len stop).getD i c0).p).f = false → ∃ j : Nat, ((growL L n R m width len stop).getD i c0).k = (j : Int) ∧ ((growL L n R m width len stop).getD i c0).s ≤ max (L ((growL L n R m width len stop).getD i c0).p).s (-2147483648) ∧ ((growL L n R m width len stop).getD i c0).f = (decide ((j : Int) = stop) || decide (len ≤ ((L ((growL L n R m width len stop).getD i c0).p).t.length : Int) + 1))) := by
  have e : growL L n R m width len stop = bestZ (candTo L R len stop n) width := by unfold growL; rw [if_pos h]
  rw [e] at hi ⊢
  obtain ⟨cs, ecs⟩ : ∃ cs, candTo L R len stop n = cs := ⟨_, rfl⟩
  rw [ecs] at hi ⊢
  rw [bestZ_length] at hi
  have hsl : (scoresZ cs).length = cs.length := by simp [scoresZ]
  have a0 := bestZ_at cs width hi
  have hp := place_lt cs (show i < cs.length by omega)
  have fall : 0 < i → ((bestZ cs width).getD i c0).s ≤ ((bestZ cs width).getD (i - 1) c0).s := fun h0 => by
    obtain ⟨k, rfl⟩ : ∃ k, i = k + 1 := ⟨i - 1, by omega⟩
    have a1 := bestZ_at cs width (i := k) (by omega)
    have hp1 := place_lt cs (show k < cs.length by omega)
    have := places_fall (scoresZ cs) (i := k) (by omega)
    rw [scores_at cs hp, scores_at cs hp1] at this
    rw [a0, show k + 1 - 1 = k by omega, a1]
    exact this
  refine ⟨?_, fall, ?_⟩
  all_goals (
    rw [a0]
    have mem := getD_mem hp
    rw [← ecs] at mem
    obtain ⟨q1, q2⟩ := candTo_mem mem
    rw [ecs] at q1 q2)
  · exact q1
  · revert q1 q2
    generalize cs.getD ((places (scoresZ cs)).getD i 0) c0 = c
    intro q1 q2
    obtain ⟨-, ⟨f, ec⟩ | ⟨f, j, hj, ec⟩⟩ := candOf_mem q2
    · refine ⟨fun _ => ?_, fun hf => by rw [f] at hf; cases hf⟩
      generalize c.p = P at *
      subst ec
      exact ⟨rfl, rfl, rfl⟩
    · refine ⟨fun hf => (by rw [f] at hf; cases hf), fun _ => ⟨j, ?_⟩⟩
      generalize c.p = P at *
      subst ec
      refine ⟨rfl, ?_, Bool.or_comm _ _⟩
      have := lossZ_le (R (liveTo L P)) hj
      show clampZ (clampZ (L P).s + lossZ (R (liveTo L P)) j) ≤ _
      unfold clampZ
      omega

/-- more room changes nothing of the first -/
theorem wide_plain {L : Nat → Bm} {n : Nat} {R : Nat → List Int} {m : Nat} {width : Int} (len stop : Int) (h1 : 1 ≤ width) (h2 : width ≤ 3) :
    growE L n R m (width + 1) = growE L n R m width ∧ (growL L n R m width len stop).length ≤ (growL L n R m (width + 1) len stop).length ∧
    (∀ i, i < (growL L n R m width len stop).length → (growL L n R m (width + 1) len stop).getD i c0 = (growL L n R m width len stop).getD i c0) := by
  have e : growE L n R m (width + 1) = growE L n R m width := by
    unfold growE
    rw [if_neg (show ¬ (width + 1 < 1 ∨ 4 < width + 1) by omega), if_neg (show ¬ (width < 1 ∨ 4 < width) by omega)]
  refine ⟨e, ?_⟩
  unfold growL
  rw [e]
  by_cases h : growE L n R m width = 0
  · rw [if_pos h, if_pos h, bestZ_length, bestZ_length]
    refine ⟨by omega, fun i hi => ?_⟩
    rw [bestZ_at _ _ hi, bestZ_at _ _ (by omega)]
  · rw [if_neg h, if_neg h]
    exact ⟨Nat.le_refl _, fun i hi => by simp at hi⟩

theorem growP_at (G : List Cd) {i : Nat} (h : i < G.length) : (growP G).getD i 0 = ((G.getD i c0).p : Int) := by
  simp [growP, List.getD, h]

end Go.Proofs.Yteeljnibglnflaa
