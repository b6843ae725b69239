/- The example that the statements ask for first comes out as it should. -/
import Derived.Test.YtefkbfmckoidaaaRows
import Derived.Test.YtefkbfmckoidaaaView
import Derived.Test.YtefkbfmckoidaaaOwn
import Derived.Test.YtefkbfmckoidaaaSame
import Derived.Test.YtefkbfmckoidaaaWorks
import Derived.Test.YtefkbfmckoidaaaOrder
import Derived.Test.YtefkbfmckoidaaaRank
import Derived.Test.YtefkbfmckoidaaaTop
import Derived.WalkKit
import Derived.ProofKit
import Derived.OpenShut
import Derived.Below
import Derived.WalkLawsBesides
namespace Go.Proofs.Ytefkbfmckoidaaa
open Go.ChangeShapes Go.WideShapes Go.ChangeAt Go.RowKit
set_option linter.unusedVariables false

theorem lit3 (k : IntKind) (w : World) (e : TypeId) (g : Nat) (hg : g = w.heap.size) (a b c : Int) (ha : (Lit.int k a).wf = true) (hb : (Lit.int k b).wf = true) (hc : (Lit.int k c).wf = true) :
    Reads k (w.alloc (.cells #[.int k a, .int k b, .int k c] e)) (some ⟨g, 0, none⟩) 3 [a, b, c] := by
  subst hg
  exact lit_reads k w [a, b, c] e (by simp) (by simp [ha, hb, hc])

theorem looks_places : places [3, 7, 7, 1] = [1, 2, 0, 3] := places_of ⟨by decide, by decide⟩
theorem looks_max : maxZ [3, 7, 7, 1] = 1 := by unfold maxZ; rw [looks_places]; decide
theorem looks_top : topZ [3, 7, 7, 1] 3 = [1, 2, 0] := by unfold topZ; rw [looks_places]; decide
theorem looks_rank : rankZ [3, 7, 7, 1] 3 = 3 := by decide
theorem looks_none : topZ [3, 7, 7, 1] 0 = [] := by unfold topZ; simp

set_option maxHeartbeats 1000000 in
theorem works_call (w : World) : Calls Try.prog 15 #[] w fun e w' => e = .returned (.bool true) ∧ Below w.heap.size w w' := by
  have k7 := fun p q W (r : Reads .i64 W p 4 [3, 7, 7, 1]) => max_call p 4 q [3, 7, 7, 1] W r
  have k7' := fun W => max_nil none 0 W
  have k10 := fun p q W (r : Reads .i64 W p 4 [3, 7, 7, 1]) => top_call p 4 q [3, 7, 7, 1] 3 W r (by omega)
  have k10' := fun p q W (r : Reads .i64 W p 4 [3, 7, 7, 1]) => top_none p 4 q 0 W (by omega)
  have k12 := fun p q W (r : Reads .i64 W p 4 [3, 7, 7, 1]) => rank_call p 4 q [3, 7, 7, 1] 3 W r
  rw [looks_max] at k7
  rw [looks_top] at k10
  rw [looks_rank] at k12
  have e3 : min (3 : Int).toNat 4 = 3 := rfl
  rw [e3] at k10
  clear e3
  obtain ⟨L, eL⟩ : ∃ L : List Int, [3, 7, 7, 1] = L := ⟨_, rfl⟩
  have r0 := lit4 .i64 w 2 w.heap.size rfl 3 7 7 1 (by decide) (by decide) (by decide) (by decide)
  have hb := below_new (Below.refl w.heap.size w) (.cells #[.int .i64 3, .int .i64 7, .int .i64 7, .int .i64 1] 2)
  rw [eL] at k7 k10 k10' k12 r0
  clear eL
  go_enter Try.func15, Try.ntmps15
  go_wp2_with (first
    | (go_at_call_of 7 (Value.slice none 0 0); refine (k7' _).mono ?_; rintro e W5 ⟨rfl, hw⟩; obtain rfl := hw.symm; clear hw)
    | (go_at_call 7; refine (k7 _ _ _ r0).mono ?_; rintro e W1 ⟨rfl, hb2⟩; replace r0 := r0.below hb2; replace hb := below_then hb hb2; clear hb2)
    | (go_at_call_of 10 (Value.int IntKind.i64 3); refine (k10 _ _ _ r0).mono ?_; rintro e W2 ⟨⟨p2, q2, rfl, r2, -⟩, hb2⟩; replace r0 := r0.below hb2; replace hb := below_then hb hb2; clear hb2)
    | (go_at_call 9; refine (same_ints _ _ _ [1, 2, 0] _ _ _ _ (r2.below (below_new (Below.refl _ _) _)) (lit3 .i64 _ 3 _ (by simp) 1 2 0 (by decide) (by decide) (by decide))).mono ?_; rintro e W3 ⟨rfl, hq⟩; replace r0 := r0.below (below_drew (below_new (Below.refl _ _) _) hq); replace hb := below_drew (below_new hb _) hq; clear hq r2)
    | (go_at_call 12; refine (k12 _ _ _ r0).mono ?_; rintro e W4 ⟨rfl, hb2⟩; replace r0 := r0.below hb2; replace hb := below_then hb hb2; clear hb2)
    | (go_at_call 10; refine (k10' _ _ _ r0).mono ?_; rintro e W6 ⟨rfl, hw⟩; obtain rfl := hw.symm; clear hw))
  go_ret
  exact ⟨rfl, hb⟩

end Go.Proofs.Ytefkbfmckoidaaa
