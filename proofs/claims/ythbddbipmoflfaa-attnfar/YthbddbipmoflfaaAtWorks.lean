/- The examples that the statements ask for first: they come out as they should. -/
import Derived.Test.YthbddbipmoflfaaRows
import Derived.Test.YthbddbipmoflfaaSat
import Derived.Test.YthbddbipmoflfaaAdds
import Derived.Test.YthbddbipmoflfaaView
import Derived.Test.YthbddbipmoflfaaOwn
import Derived.Test.YthbddbipmoflfaaWorks
import Derived.Test.YthbddbipmoflfaaSoft
import Derived.Test.YthbddbipmoflfaaMean
import Derived.Test.YthbddbipmoflfaaSame
import Derived.Test.YthbddbipmoflfaaAtPlain
import Derived.Test.YthbddbipmoflfaaAtFits
import Derived.Test.YthbddbipmoflfaaAtFitsNo
import Derived.Test.YthbddbipmoflfaaAtHead
import Derived.Test.YthbddbipmoflfaaAtSee
import Derived.WalkKit
import Derived.ProofKit
import Derived.OpenShut
import Derived.Below
import Derived.WalkLawsBesides
import Derived.Deep.QuietTactic
import Derived.BigQuiet
namespace Go.Proofs.Ythbddbipmoflfaa
open Go.ChangeShapes Go.WideShapes Go.ChangeAt Go.RowKit
set_option linter.unusedVariables false
set_option linter.unusedSimpArgs false

def exRows (a b c d : Int) (r : Nat) : List Int := if r = 0 then [a, b] else [c, d]

theorem lit_grid (w : World) (g : Nat) (hg : g = w.heap.size) (p1 p2 : Addr) (a b c d : Int) (h1 : Reads .i64 w (some p1) 2 [a, b]) (h2 : Reads .i64 w (some p2) 2 [c, d]) :
    Grid (w.alloc (.cells #[.slice (some p1) 2 2, .slice (some p2) 2 2] 22)) (some ⟨g, 0, none⟩) 2 (fun r => if r = 0 then some p1 else some p2) (fun _ => 2) (exRows a b c d) := by
  subst hg
  have own := World.ownsRow_lit (base := w.heap.size) (e := 22) (size := 1) w #[.slice (some p1) 2 2, .slice (some p2) 2 2] 2 (Nat.le_refl _) (by decide) (by simp)
  have bn := below_new (Below.refl w.heap.size w) (.cells #[.slice (some p1) 2 2, .slice (some p2) 2 2] 22)
  refine ⟨by omega, fun _ => ⟨_, rfl⟩, fun x hx r hr => ?_, fun r hr => ?_⟩
  · obtain rfl := Option.some.inj hx
    match r, hr with
    | 0, _ => exact own.cells (g := w.heap.size) rfl 0 _ rfl
    | 1, _ => exact own.cells (g := w.heap.size) rfl 1 _ rfl
  · match r, hr with
    | 0, _ => exact h1.below bn
    | 1, _ => exact h2.below bn

theorem looks_k1 : ∀ W p q b j A C b' j' A' C', Reads .i64 W p 2 [0, 0] → Grid W b 2 A C (exRows 1 2 3 4) → Grid W b' 2 A' C' (exRows 65536 0 0 65536) → Calls Try.prog 9 #[.slice p 2 q, .slice b 2 j, .slice b' 2 j'] W fun e w' => (∃ a c, e = .returned (.tuple #[.slice a 2 c, .int .i64 0]) ∧ Reads .i64 w' a 2 [32768, 32768]) ∧ Below W.heap.size W w' := by
  intro W p q b j A C b' j' A' C' h h1 h2
  have := head_yes p 2 q [0, 0] b 2 j A C (exRows 1 2 3 4) b' j' A' C' (exRows 65536 0 0 65536) W h h1 h2 (by decide) (by decide) (fun r _ => by unfold exRows; constructor <;> split <;> rfl) (by decide) (by decide)
  rw [show headZ [0, 0] (exRows 1 2 3 4) (exRows 65536 0 0 65536) 2 2 = [32768, 32768] by decide +kernel] at this
  exact this.mono fun e w' ⟨⟨a, c, h1, h2, _⟩, h3⟩ => ⟨⟨a, c, h1, h2⟩, h3⟩

theorem looks_k2 : ∀ W, Calls Try.prog 9 #[.slice none 0 0, .slice none 0 0, .slice none 0 0] W fun e w' => e = .returned (.tuple #[.slice none 0 0, .int .i64 21]) ∧ w' = W := fun W => by
  have g : Grid W none 0 (fun _ => none) (fun _ => 0) (fun _ => []) := ⟨by omega, fun h => by omega, fun _ h => (by cases h), fun r hr => by omega⟩
  exact head_no none 0 0 none 0 0 _ _ (fun _ => []) none 0 0 _ _ (fun _ => []) W g g rfl

set_option maxHeartbeats 1000000 in
theorem works_call (w : World) : Calls Try.prog 17 #[] w fun e w' => e = .returned (.bool true) ∧ Below w.heap.size w w' := by
  have k1 := looks_k1
  have k2 := looks_k2
  have hb := Below.refl w.heap.size w
  have k3 := fun W => visible_call 5 3 (by decide) (by decide) W
  have k4 := fun W => visible_call 1 3 (by decide) (by decide) W
  rw [show seeZ 5 3 = 3 from rfl] at k3
  rw [show seeZ 1 3 = 0 from rfl] at k4
  go_enter Try.func17, Try.ntmps17
  go_wp2_with (first
    | (go_at_call 9; refine (k1 _ _ _ _ _ _ _ _ _ _ _ ((lit2 .i64 _ 2 _ (by simp) 0 0 (by decide) (by decide)).below (below_new (below_new (below_new (below_new (below_new (below_new (Below.refl _ _) _) _) _) _) _) _))
        ((lit_grid _ _ (by simp) _ _ 1 2 3 4 ((lit2 .i64 _ 2 _ (by simp) 1 2 (by decide) (by decide)).below (below_new (Below.refl _ _) _)) (lit2 .i64 _ 2 _ (by simp) 3 4 (by decide) (by decide))).below (below_new (below_new (below_new (Below.refl _ _) _) _) _))
        (lit_grid _ _ (by simp) _ _ 65536 0 0 65536 ((lit2 .i64 _ 2 _ (by simp) 65536 0 (by decide) (by decide)).below (below_new (Below.refl _ _) _)) (lit2 .i64 _ 2 _ (by simp) 0 65536 (by decide) (by decide)))).mono ?_; rintro e W1 ⟨⟨p1, q1, rfl, r1⟩, hb1⟩; replace hb1 := below_then (below_new (below_new (below_new (below_new (below_new (below_new (below_new hb _) _) _) _) _) _) _) hb1; clear k1)
    | (go_at_call 9; refine (k2 _).mono ?_; rintro e w' ⟨rfl, h⟩; obtain rfl := h.symm; clear k2)
    | (go_at_call 14; refine (same_call _ _ _ [32768, 32768] _ _ _ _ (r1.below (below_new (Below.refl _ _) _)) (lit2 .i64 _ 2 _ (by simp) 32768 32768 (by decide) (by decide))).mono ?_; rintro e W5 ⟨rfl, hq⟩; have hb5 := below_drew (below_new hb1 _) hq; clear hq r1)
    | (go_at_call 15; refine (k3 _).mono ?_; rintro e w' ⟨rfl, h⟩; obtain rfl := h.symm; clear k3)
    | (go_at_call 15; refine (k4 _).mono ?_; rintro e w' ⟨rfl, h⟩; obtain rfl := h.symm; clear k4))
  go_ret
  exact ⟨rfl, by assumption⟩

end Go.Proofs.Ythbddbipmoflfaa
