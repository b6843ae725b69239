/- The best token alone: plain arithmetic. -/
import Derived.Test.YteeljnibglnflaaRows
import Derived.Test.YteeljnibglnflaaSat
import Derived.Test.YteeljnibglnflaaRanks
import Derived.Test.YteeljnibglnflaaBmZ
import Derived.Test.YteeljnibglnflaaBmPre
import Derived.WalkKit
import Derived.ProofKit
import Derived.OpenShut
import Derived.WalkLawsBesides
import Derived.Below
import Derived.Deep.QuietTactic
import Derived.BigQuiet
import Derived.Laws.AppendOwnNone
namespace Go.Proofs.Yteeljnibglnflaa
set_option maxRecDepth 20000
open Go.ChangeShapes Go.WideShapes Go.ChangeAt Go.RowKit
set_option linter.unusedVariables false
set_option linter.unusedSimpArgs false

theorem clamp_min (x : Int) : min 2147483647 (max (-2147483648) x) = clampZ x := by unfold clampZ; omega

/-- with width 1 the only beam goes on with the best token, at no loss -/
theorem one_plain (zs ts : List Int) (S : Int) (h : 0 < zs.length) (h1 : -1073741824 ≤ S) (h2 : S ≤ 0) (hl : ts.length ≤ 100) :
    ∃ i, i < zs.length ∧ growE (fun _ => ⟨ts, S, false⟩) 1 (fun _ => zs) 1 1 = 0 ∧ growL (fun _ => ⟨ts, S, false⟩) 1 (fun _ => zs) 1 1 1000 (-1) = [⟨0, (i : Int), S, false⟩] ∧ ∀ k, k < zs.length → clampZ (zs.getD k 0) ≤ clampZ (zs.getD i 0) := by
  have hE : growE (fun _ => (⟨ts, S, false⟩ : Bm)) 1 (fun _ => zs) 1 1 = 0 := by
    unfold growE
    rw [if_neg (by omega), if_pos]
    unfold fitB
    simp [liveTo, h]
  have hc : candTo (fun _ => (⟨ts, S, false⟩ : Bm)) (fun _ => zs) 1000 (-1) 1 = grownTo ⟨ts, S, false⟩ 0 zs 1000 (-1) zs.length := by
    show [] ++ candOf _ _ _ _ 0 = _
    unfold candOf
    rfl
  have at_ : ∀ i, i < zs.length → (grownTo ⟨ts, S, false⟩ 0 zs 1000 (-1) zs.length).getD i c0 = ⟨0, (i : Int), clampZ (clampZ S + lossZ zs i), false⟩ := fun i hi => by
    have hf : (decide ((1000 : Int) ≤ (ts.length : Int) + 1) || decide ((i : Int) = -1)) = false := by
      simp
      omega
    simp only [grownTo, List.getD, List.getElem?_map, List.getElem?_range hi, Option.map_some, Option.getD_some, hf]
  obtain ⟨cs, ecs⟩ : ∃ cs, grownTo ⟨ts, S, false⟩ 0 zs 1000 (-1) zs.length = cs := ⟨_, rfl⟩
  have hlen : cs.length = zs.length := by rw [← ecs, grownTo_length]
  rw [ecs] at at_ hc
  have P := places_ordered (scoresZ cs)
  have hsl : (scoresZ cs).length = zs.length := by simp [scoresZ, hlen]
  rw [hsl] at P
  obtain ⟨i, ei⟩ : ∃ i, (places (scoresZ cs)).getD 0 0 = i := ⟨_, rfl⟩
  have hi : i < zs.length := by rw [← ei]; exact P.lt h
  have r0 := P.rank (m := 0) h
  rw [ei] at r0
  have nah : ∀ k, k < zs.length → ahead (scoresZ cs) k i = false := fun k hk => by
    unfold rankTo at r0
    rw [List.countP_eq_zero] at r0
    have := r0 k (List.mem_range.2 hk)
    simpa using this
  obtain ⟨j, hj, ej⟩ := topTo_is zs h
  have lj : lossZ zs j = 0 := by
    unfold lossZ topC
    rw [← ej, Int.sub_self]
    decide
  have cS : clampZ S = S := clampZ_of (by omega) (by omega)
  have sc : ∀ k, k < zs.length → (scoresZ cs).getD k 0 = clampZ (S + lossZ zs k) := fun k hk => by
    rw [scores_at cs (by omega), at_ k hk, cS]
  have sj : (scoresZ cs).getD j 0 = S := by rw [sc j hj, lj, Int.add_zero, cS]
  have li := lossZ_le zs hi
  have lb := lossZ_bounds zs i
  have hge : S ≤ (scoresZ cs).getD i 0 := by
    have := nah j hj
    rw [ahead_not, sj] at this
    omega
  have si := sc i hi
  have li0 : lossZ zs i = 0 := by
    rw [si] at hge
    unfold clampZ at hge
    omega
  have top_i : clampZ (zs.getD i 0) = topC zs := by
    have b1 := topTo_bounds zs zs.length
    have b2 := clampZ_bounds (zs.getD i 0)
    have b3 := topTo_le zs hi
    have e : clampZ (clampZ (zs.getD i 0) - topC zs) = 0 := li0
    have et : topC zs = topTo zs zs.length := rfl
    rw [et] at e ⊢
    unfold clampZ at e
    unfold clampZ at b2 b3 ⊢
    omega
  refine ⟨i, hi, hE, ?_, fun k hk => by rw [top_i]; exact topTo_le zs hk⟩
  have eL : growL (fun _ => (⟨ts, S, false⟩ : Bm)) 1 (fun _ => zs) 1 1 1000 (-1) = bestZ cs 1 := by
    unfold growL
    rw [if_pos hE, hc]
  rw [eL]
  have l := bestZ_length cs 1
  have a0 := bestZ_at cs 1 (i := 0) (by rw [hlen]; show 0 < min 1 _; omega)
  rw [ei, at_ i hi, cS, li0, Int.add_zero, cS] at a0
  have l1 : (bestZ cs 1).length = 1 := by rw [l, hlen]; show min 1 _ = 1; omega
  revert a0 l1
  generalize bestZ cs 1 = X
  intro a0 l1
  match X, l1, a0 with
  | [x], _, a0 =>
    have h0 : x = ⟨0, (i : Int), S, false⟩ := a0
    rw [h0]

end Go.Proofs.Yteeljnibglnflaa
