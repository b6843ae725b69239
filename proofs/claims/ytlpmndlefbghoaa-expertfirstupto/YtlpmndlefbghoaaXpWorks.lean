/- That the three calls do what the examples say: the contract of the call. -/
import Derived.Test.YtlpmndlefbghoaaRows
import Derived.Test.YtlpmndlefbghoaaView
import Derived.Test.YtlpmndlefbghoaaOwn
import Derived.Test.YtlpmndlefbghoaaSat
import Derived.Test.YtlpmndlefbghoaaAdds
import Derived.Test.YtlpmndlefbghoaaExp
import Derived.Test.YtlpmndlefbghoaaFitZ
import Derived.Test.YtlpmndlefbghoaaMats
import Derived.Test.YtlpmndlefbghoaaSoft
import Derived.Test.YtlpmndlefbghoaaMean
import Derived.Test.YtlpmndlefbghoaaGrids
import Derived.Test.YtlpmndlefbghoaaRanks
import Derived.Test.YtlpmndlefbghoaaInvIn
import Derived.Test.YtlpmndlefbghoaaHeld
import Derived.Test.YtlpmndlefbghoaaXpNeed
import Derived.Test.YtlpmndlefbghoaaAskZ
import Derived.Test.YtlpmndlefbghoaaOneZ
import Derived.Test.YtlpmndlefbghoaaXpRouteZ
import Derived.Test.YtlpmndlefbghoaaXpRoute
import Derived.Test.YtlpmndlefbghoaaXpRouteF
import Derived.Test.YtlpmndlefbghoaaXpMixZ
import Derived.Test.YtlpmndlefbghoaaXpBlend
import Derived.Test.YtlpmndlefbghoaaXpGridB
import Derived.Test.YtlpmndlefbghoaaRegZ
import Derived.Test.YtlpmndlefbghoaaSame
import Derived.Test.YtlpmndlefbghoaaSameI
import Derived.Test.YtlpmndlefbghoaaWorks
import Derived.Test.YtlpmndlefbghoaaMixZ
import Derived.WalkKit
import Derived.ProofKit
import Derived.OpenShut
import Derived.Below
import Derived.WalkLawsBesides
import Derived.Deep.QuietTactic
import Derived.BigQuiet
namespace Go.Proofs.Ytlpmndlefbghoaa
open Go.ChangeShapes Go.WideShapes Go.ChangeAt Go.RowKit
set_option linter.unusedVariables false
set_option linter.unusedSimpArgs false

theorem Nets.nil (w : World) (A : Nat → Option Addr) (C : Nat → Nat) (R : Nat → List Int) : Nets w none 0 A C R :=
  ⟨⟨by omega, fun h => by omega, fun x hx => (by cases hx), fun r h => by omega⟩, fun r h => by omega, fun r h => by omega, fun r h => by omega⟩

theorem wk_places : places [32768, 65536] = [1, 0] := places_of ⟨by decide, by decide⟩
theorem wk_mat : matL [32, 64] [65536] = [32768, 65536] := by decide +kernel
theorem wk_P : routeP [32, 64] 1 [65536] = [1] := by unfold routeP pickZ; rw [wk_mat, wk_places]; decide
theorem wk_S : routeS [32, 64] 1 [65536] = [65536] := by
  have e : chosenL [32, 64] (1 : Int).toNat [65536] = [65536] := by unfold chosenL plc; rw [wk_mat, wk_places]; decide
  unfold routeS
  rw [e]
  decide +kernel
theorem wk_O : oneL [64] [64] [0] = [0] := by decide +kernel

set_option maxHeartbeats 2000000 in
theorem works_call (w : World) : Calls Try.prog 18 #[] w fun e w' => e = .returned (.bool true) ∧ Below w.heap.size w w' := by
  have k16 := fun (W : World) p0 p1 p3 (h0 : Reads .i8 W p0 1 [64]) (h1 : Reads .i8 W p1 1 [64]) (h3 : Reads .i64 W p3 1 [0]) => One_yes p0 1 1 [64] p1 1 1 [64] 1 p3 1 1 [0] W h0 (Nat.le_refl _) h1 (Nat.le_refl _) h3 (by decide) (by decide) (by decide) (by decide +kernel)
  rw [wk_O] at k16
  have k12 := fun (W : World) p0 p3 (h0 : Reads .i8 W p0 2 [32, 64]) (h3 : Reads .i64 W p3 1 [65536]) => Route_yes p0 2 2 [32, 64] 2 1 p3 1 1 [65536] W h0 (Nat.le_refl _) h3 (by decide) (by decide) (by decide) (by decide +kernel)
  rw [wk_P, wk_S, show (1 : Int).toNat = 1 from rfl] at k12
  have k9 := fun (W : World) p5 (h5 : Reads .i64 W p5 1 [1]) => Mix_no none 0 0 [] none 0 0 (fun _ => none) (fun _ => 0) (fun _ => []) none 0 0 (fun _ => none) (fun _ => 0) (fun _ => []) 1 1 p5 1 1 [1] W (Reads.nil _ _) (Nat.le_refl _) (Nets.nil _ _ _ _) (Nets.nil _ _ _ _) h5 (by decide) (by decide) (by decide) (by decide) (by decide) (by decide)
  have eE : mixE [] 0 0 (fun _ => []) (fun _ => []) 1 1 [1] = 21 := rfl
  rw [eE] at k9
  clear eE
  go_enter Try.func18, Try.ntmps18
  go_wp2_with (first
    | (go_at_call 16; refine (k16 _ _ _ _ (((lit1 .i8 w 53 _ rfl 64 (by decide)).below (below_new (Below.refl _ _) _)).below (below_new (Below.refl _ _) _)) ((lit1 .i8 _ 53 _ (by simp) 64 (by decide)).below (below_new (Below.refl _ _) _)) (lit1 .i64 _ 2 _ (by simp) 0 (by decide))).mono ?_; rintro e W1 ⟨⟨b1, rfl, r1⟩, d1⟩; have hb1 : Below w.heap.size w W1 := below_then (below_new (below_new (below_new (Below.refl _ _) _) _) _) d1; clear d1)
    | (go_at_call 12; refine (k12 _ _ _ ((lit2 .i8 W1 53 _ rfl 32 64 (by decide) (by decide)).below (below_new (Below.refl _ _) _)) (lit1 .i64 _ 2 _ (by simp) 65536 (by decide))).mono ?_; rintro e W2 ⟨⟨bp, cp, bq, cq, rfl, r2, r3⟩, d2⟩; have d2' : Below W1.heap.size W1 W2 := below_then (below_new (below_new (Below.refl _ _) _) _) d2; replace r1 := r1.below d2'; have hb2 := below_then hb1 d2'; clear d2 d2' hb1)
    | (go_at_call 9; refine (k9 _ _ (lit1 .i64 W2 2 _ rfl 1 (by decide))).mono ?_; rintro e W3 ⟨rfl, d3⟩; have d3' : Below W2.heap.size W2 W3 := below_then (below_new (Below.refl _ _) _) d3; replace r1 := r1.below d3'; replace r2 := r2.below d3'; replace r3 := r3.below d3'; have hb3 := below_then hb2 d3'; clear d3 d3' hb2)
    | (go_at_call_of 14 (Value.slice (some b1) 1 1); refine (same_call _ _ _ [0] _ _ _ _ (r1.below (below_new (Below.refl _ _) _)) (lit1 .i64 W3 2 _ rfl 0 (by decide))).mono ?_; rintro e W4 ⟨rfl, hq⟩; have d4 : Below W3.heap.size W3 W4 := below_drew (below_new (Below.refl _ _) _) hq; replace r2 := r2.below d4; replace r3 := r3.below d4; have hb4 := below_then hb3 d4; clear d4 hq hb3 r1)
    | (go_at_call 15; refine (same_ints _ _ _ [1] _ _ _ _ (r2.below (below_new (Below.refl _ _) _)) (lit1 .i64 W4 3 _ rfl 1 (by decide))).mono ?_; rintro e W5 ⟨rfl, hq⟩; have d5 : Below W4.heap.size W4 W5 := below_drew (below_new (Below.refl _ _) _) hq; replace r3 := r3.below d5; have hb5 := below_then hb4 d5; clear d5 hq hb4 r2)
    | (go_at_call_of 14 (Value.slice bq 1 cq); refine (same_call _ _ _ [65536] _ _ _ _ (r3.below (below_new (Below.refl _ _) _)) (lit1 .i64 W5 2 _ rfl 65536 (by decide))).mono ?_; rintro e W6 ⟨rfl, hq⟩; have d6 : Below W5.heap.size W5 W6 := below_drew (below_new (Below.refl _ _) _) hq; have hb6 := below_then hb5 d6; clear d6 hq hb5 r3))
  go_ret
  exact ⟨rfl, hb6⟩

end Go.Proofs.Ytlpmndlefbghoaa
