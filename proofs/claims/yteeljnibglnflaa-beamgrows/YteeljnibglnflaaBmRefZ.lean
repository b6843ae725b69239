/- Candidates by their places: plain. -/
import Derived.Test.YteeljnibglnflaaRows
import Derived.Test.YteeljnibglnflaaSat
import Derived.Test.YteeljnibglnflaaRanks
import Derived.Test.YteeljnibglnflaaBmZ
import Derived.Test.YteeljnibglnflaaView
import Derived.Test.YteeljnibglnflaaBmAt
import Derived.Test.YteeljnibglnflaaGMean
import Derived.Test.YteeljnibglnflaaBmRefN
import Derived.WalkKit
import Derived.ProofKit
import Derived.OpenShut
import Derived.WalkLawsBesides
import Derived.Below
import Derived.Deep.QuietTactic
import Derived.BigQuiet
import Derived.Laws.AppendOwnNone
namespace Go.Proofs.Yteeljnibglnflaa
set_option maxRecDepth 20000
open Go.ChangeShapes Go.WideShapes Go.ChangeAt Go.RowKit
set_option linter.unusedVariables false
set_option linter.unusedSimpArgs false

/-- what the document's Grow answers -/
def RefAns (w : World) (e : Ending) (L : Nat → Bm) (n : Nat) (R : Nat → List Int) (m : Nat) (width len stop : Int) : Prop :=
  ∃ (a b : Option Addr) (ca cb : Nat) (Ar : Nat → Option Addr) (Cr : Nat → Nat), e = .returned (.tuple #[.slice a (growL L n R m width len stop).length ca, .slice b (growL L n R m width len stop).length cb, .int .i64 (growE L n R m width)]) ∧ BmAt w a (growL L n R m width len stop).length Ar Cr (growB L (growL L n R m width len stop)) ∧ Reads .i64 w b (growL L n R m width len stop).length (growP (growL L n R m width len stop))

/-- do the first j rows fit? -/
def okTo (B : Bool) (R : Nat → List Int) (j : Nat) : Bool := B && (List.range j).all fun r => decide (0 < (R r).length)

theorem okTo_succ (B : Bool) (R : Nat → List Int) (j : Nat) : okTo B R (j + 1) = (okTo B R j && decide (0 < (R j).length)) := by
  simp [okTo, List.range_succ, List.all_append, Bool.and_assoc]

theorem fit_ok (L : Nat → Bm) (n : Nat) (R : Nat → List Int) (m : Nat) : fitB L n R m = okTo (decide (0 < n) && decide (m = liveTo L n)) R m := rfl

theorem candTo_pre (L : Nat → Bm) (R : Nat → List Int) (len stop : Int) {i n : Nat} (h : i ≤ n) : ∃ t, candTo L R len stop n = candTo L R len stop i ++ t := by
  induction n with
  | zero => obtain rfl : i = 0 := by omega
            exact ⟨[], by simp⟩
  | succ n ih =>
    by_cases e : i = n + 1
    · subst e; exact ⟨[], by simp⟩
    · obtain ⟨t, ht⟩ := ih (by omega)
      exact ⟨t ++ candOf L R len stop n, by rw [candTo, ht, List.append_assoc]⟩

theorem candTo_at (L : Nat → Bm) (R : Nat → List Int) (len stop : Int) {i n : Nat} (h : i < n) {t : Nat} (ht : t < (candOf L R len stop i).length) : (candTo L R len stop n).getD ((candTo L R len stop i).length + t) c0 = (candOf L R len stop i).getD t c0 := by
  obtain ⟨u, hu⟩ := candTo_pre L R len stop (show i + 1 ≤ n by omega)
  rw [hu, candTo, List.append_assoc, List.getD, List.getD, List.getElem?_append_right (by omega), Nat.add_sub_cancel_left, List.getElem?_append_left ht]

theorem candTo_len (L : Nat → Bm) (R : Nat → List Int) (len stop : Int) {i n : Nat} (h : i ≤ n) : (candTo L R len stop i).length ≤ (candTo L R len stop n).length := by
  obtain ⟨u, hu⟩ := candTo_pre L R len stop h
  rw [hu, List.length_append]
  omega

theorem cand_done {L : Nat → Bm} {R : Nat → List Int} {len stop : Int} {i : Nat} (hf : (L i).f = true) : (candOf L R len stop i).length = 1 ∧ wholeZ L ((candOf L R len stop i).getD 0 c0) = L i ∧ ((candOf L R len stop i).getD 0 c0).p = i := by
  have e : candOf L R len stop i = [⟨i, -1, (L i).s, true⟩] := by unfold candOf; rw [if_pos hf]
  rw [e]
  refine ⟨rfl, ?_, rfl⟩
  show (⟨(L i).t ++ [], (L i).s, true⟩ : Bm) = L i
  rw [List.append_nil, ← hf]

theorem cand_live {L : Nat → Bm} {R : Nat → List Int} {len stop : Int} {i : Nat} (hf : (L i).f = false) : (candOf L R len stop i).length = (R (liveTo L i)).length ∧ ∀ t, t < (R (liveTo L i)).length → wholeZ L ((candOf L R len stop i).getD t c0) = moreB (L i).t (L i).s (R (liveTo L i)) len stop t ∧ ((candOf L R len stop i).getD t c0).p = i := by
  have e : candOf L R len stop i = grownTo (L i) i (R (liveTo L i)) len stop (R (liveTo L i)).length := by unfold candOf; rw [if_neg (by rw [hf]; decide)]
  rw [e, grownTo_length]
  refine ⟨rfl, fun t ht => ?_⟩
  have e2 : (grownTo (L i) i (R (liveTo L i)) len stop (R (liveTo L i)).length).getD t c0 = ⟨i, (t : Int), clampZ (clampZ (L i).s + lossZ (R (liveTo L i)) t), decide (len ≤ ((L i).t.length : Int) + 1) || decide ((t : Int) = stop)⟩ := by
    simp only [grownTo, List.getD, List.getElem?_map, List.getElem?_range ht, Option.map_some, Option.getD_some]
  rw [e2]
  refine ⟨?_, rfl⟩
  unfold wholeZ moreB
  simp only [if_neg (show ¬ ((t : Int) = -1) by omega), Bool.or_comm]

end Go.Proofs.Yteeljnibglnflaa
