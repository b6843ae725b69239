/- The examples that the statements ask for first: they come out as they should. -/
import Derived.Test.YtdpodanhokihlaaRows
import Derived.Test.YtdpodanhokihlaaSat
import Derived.Test.YtdpodanhokihlaaAdds
import Derived.Test.YtdpodanhokihlaaView
import Derived.Test.YtdpodanhokihlaaOwn
import Derived.Test.YtdpodanhokihlaaWorks
import Derived.Test.YtdpodanhokihlaaRms
import Derived.Test.YtdpodanhokihlaaSoft
import Derived.Test.YtdpodanhokihlaaMean
import Derived.Test.YtdpodanhokihlaaSame
import Derived.WalkKit
import Derived.ProofKit
import Derived.OpenShut
import Derived.Below
import Derived.WalkLawsBesides
namespace Go.Proofs.Ytdpodanhokihlaa
open Go.ChangeShapes Go.WideShapes Go.ChangeAt Go.RowKit
set_option linter.unusedVariables false

def exRows (r : Nat) : List Int := if r = 0 then [1, 2] else [3, 4]

theorem lit_grid (w : World) (g : Nat) (hg : g = w.heap.size) (p1 p2 : Addr) (h1 : Reads .i64 w (some p1) 2 [1, 2]) (h2 : Reads .i64 w (some p2) 2 [3, 4]) :
    Grid (w.alloc (.cells #[.slice (some p1) 2 2, .slice (some p2) 2 2] 22)) (some ⟨g, 0, none⟩) 2 (fun r => if r = 0 then some p1 else some p2) (fun _ => 2) exRows := by
  subst hg
  have own := World.ownsRow_lit (base := w.heap.size) (e := 22) (size := 1) w #[.slice (some p1) 2 2, .slice (some p2) 2 2] 2 (Nat.le_refl _) (by decide) (by simp)
  have bn := below_new (Below.refl w.heap.size w) (.cells #[.slice (some p1) 2 2, .slice (some p2) 2 2] 22)
  refine ⟨by omega, fun _ => ⟨_, rfl⟩, fun x hx r hr => ?_, fun r hr => ?_⟩
  · obtain rfl := Option.some.inj hx
    match r, hr with
    | 0, _ => exact own.cells (g := w.heap.size) rfl 0 _ rfl
    | 1, _ => exact own.cells (g := w.heap.size) rfl 1 _ rfl
  · match r, hr with
    | 0, _ => exact h1.below bn
    | 1, _ => exact h2.below bn

theorem looks_k1 : ∀ W p q r s, Reads .i64 W p 2 [65536, 65536] → Reads .i8 W r 2 [64, 64] → Calls Try.prog 9 #[.slice p 2 q, .slice r 2 s] W fun e w' => (∃ a c, e = .returned (.tuple #[.slice a 2 c, .int .i64 0]) ∧ Reads .i64 w' a 2 [65535, 65535]) ∧ Below W.heap.size W w' := by
  intro W p q r s h h'
  have := rms_same p 2 q _ r s _ W h h' (by decide) (by decide)
  rwa [show rmsZ [65536, 65536] [64, 64] 2 = [65535, 65535] by decide +kernel] at this

theorem looks_k2 : ∀ W p q, Reads .i64 W p 2 [0, 0] → Calls Try.prog 12 #[.slice p 2 q] W fun e w' => (∃ a c, e = .returned (.slice a 2 c) ∧ Reads .i64 w' a 2 [32768, 32768]) ∧ Below W.heap.size W w' := by
  intro W p q h
  have := soft_call p 2 q _ W h (by decide)
  rwa [show softZ [0, 0] 2 = [32768, 32768] by decide +kernel] at this

theorem looks_k3 : ∀ W p q A C, Grid W p 2 A C exRows → Calls Try.prog 14 #[.slice p 2 q] W fun e w' => (∃ a c, e = .returned (.tuple #[.slice a 2 c, .int .i64 0]) ∧ Reads .i64 w' a 2 [2, 3]) ∧ Below W.heap.size W w' := by
  intro W p q A C h
  have := mean_even p 2 q A C exRows W h ⟨by decide, fun r hr => by unfold exRows; split <;> rfl⟩ (by decide)
  rwa [show (exRows 0).length = 2 from rfl, show (List.range 2).map (meanF exRows 2) = [2, 3] by decide +kernel] at this

theorem looks_k4 : ∀ W, Calls Try.prog 9 #[.slice none 0 0, .slice none 0 0] W fun e w' => e = .returned (.tuple #[.slice none 0 0, .int .i64 21]) ∧ w' = W :=
  fun W => rms_wrong none 0 0 none 0 0 W (by omega)

theorem looks_k5 : ∀ W p q, Reads .i64 W p 1 [5] → Calls Try.prog 12 #[.slice p 1 q] W fun e w' => (∃ a c, e = .returned (.slice a 1 c) ∧ Reads .i64 w' a 1 [65536]) ∧ Below W.heap.size W w' := by
  intro W p q h
  have := soft_call p 1 q _ W h (by decide)
  rwa [show softZ [5] 1 = [65536] by decide +kernel] at this

set_option maxHeartbeats 1000000 in
theorem works_call (w : World) : Calls Try.prog 16 #[] w fun e w' => e = .returned (.bool true) ∧ Below w.heap.size w w' := by
  have k1 := looks_k1
  have k2 := looks_k2
  have k3 := looks_k3
  have k4 := looks_k4
  have k5 := looks_k5
  have hb := Below.refl w.heap.size w
  go_enter Try.func16, Try.ntmps16
  go_wp2_with (first
    | (go_at_call 9; refine (k1 _ _ _ _ _ ((lit2 .i64 _ 2 _ (by simp) 65536 65536 (by decide) (by decide)).below (below_new (Below.refl _ _) _)) (lit2 .i8 _ 38 _ (by simp) 64 64 (by decide) (by decide))).mono ?_; rintro e W1 ⟨⟨p1, q1, rfl, r1⟩, hb1⟩; replace hb1 := below_then (below_new (below_new hb _) _) hb1; clear k1)
    | (go_at_call 12; refine (k2 _ _ _ (lit2 .i64 _ 2 _ (by simp) 0 0 (by decide) (by decide))).mono ?_; rintro e W2 ⟨⟨p2, q2, rfl, r2⟩, hb2⟩; replace r1 := r1.below (below_then (below_new (Below.refl _ _) _) hb2); replace hb2 := below_then (below_new hb1 _) hb2; clear k2)
    | (go_at_call 14; refine (k3 _ _ _ _ _ (lit_grid _ _ (by simp) _ _ ((lit2 .i64 _ 2 _ (by simp) 1 2 (by decide) (by decide)).below (below_new (Below.refl _ _) _)) (lit2 .i64 _ 2 _ (by simp) 3 4 (by decide) (by decide)))).mono ?_; rintro e W3 ⟨⟨p3, q3, rfl, r3⟩, hb3⟩; replace r1 := r1.below (below_then (below_new (below_new (below_new (Below.refl _ _) _) _) _) hb3); replace r2 := r2.below (below_then (below_new (below_new (below_new (Below.refl _ _) _) _) _) hb3); replace hb3 := below_then (below_new (below_new (below_new hb2 _) _) _) hb3; clear k3)
    | (go_at_call 9; refine (k4 _).mono ?_; rintro e w' ⟨rfl, h⟩; obtain rfl := h.symm; clear k4)
    | (go_at_call 11; refine (same_call _ _ _ [65535, 65535] _ _ _ _ (r1.below (below_new (Below.refl _ _) _)) (lit2 .i64 _ 2 _ (by simp) 65535 65535 (by decide) (by decide))).mono ?_; rintro e W5 ⟨rfl, hq⟩; have hb5 := below_drew (below_new hb3 _) hq; replace r2 := r2.below (below_drew (below_new (Below.refl _ _) _) hq); replace r3 := r3.below (below_drew (below_new (Below.refl _ _) _) hq); clear hq r1)
    | (go_at_call 11; refine (same_call _ _ _ [32768, 32768] _ _ _ _ (r2.below (below_new (Below.refl _ _) _)) (lit2 .i64 _ 2 _ (by simp) 32768 32768 (by decide) (by decide))).mono ?_; rintro e W6 ⟨rfl, hq⟩; have hb6 := below_drew (below_new hb5 _) hq; replace r3 := r3.below (below_drew (below_new (Below.refl _ _) _) hq); clear hq r2)
    | (go_at_call 12; refine (k5 _ _ _ (lit1 .i64 _ 2 _ (by simp) 5 (by decide))).mono ?_; rintro e W7 ⟨⟨p7, q7, rfl, r7⟩, hb7⟩; replace r3 := r3.below (below_then (below_new (Below.refl _ _) _) hb7); replace hb7 := below_then (below_new hb6 _) hb7; clear k5)
    | (go_at_call 11; refine (same_call _ _ _ [65536] _ _ _ _ (r7.below (below_new (Below.refl _ _) _)) (lit1 .i64 _ 2 _ (by simp) 65536 (by decide))).mono ?_; rintro e W8 ⟨rfl, hq⟩; have hb8 := below_drew (below_new hb7 _) hq; replace r3 := r3.below (below_drew (below_new (Below.refl _ _) _) hq); clear hq r7)
    | (go_at_call 11; refine (same_call _ _ _ [2, 3] _ _ _ _ (r3.below (below_new (Below.refl _ _) _)) (lit2 .i64 _ 2 _ (by simp) 2 3 (by decide) (by decide))).mono ?_; rintro e W9 ⟨rfl, hq⟩; have hb9 := below_drew (below_new hb8 _) hq; clear hq r3))
  go_ret
  exact ⟨rfl, by assumption⟩

end Go.Proofs.Ytdpodanhokihlaa
