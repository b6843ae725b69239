/- The document's examples hold of the program: the contract of the call of works. -/
import Derived.Test.YtkoifogkdbhpcaaRows
import Derived.Test.YtkoifogkdbhpcaaView
import Derived.Test.YtkoifogkdbhpcaaWorks
import Derived.Test.YtkoifogkdbhpcaaKnWorks
import Derived.Test.YtkoifogkdbhpcaaDrBits
import Derived.Test.YtkoifogkdbhpcaaDrChoose
import Derived.Test.YtkoifogkdbhpcaaDrSame
import Derived.WalkKit
import Derived.ProofKit
import Derived.OpenShut
import Derived.WalkLawsBesides
import Derived.Below
namespace Go.Proofs.Ytkoifogkdbhpcaa
open Go.ChangeShapes Go.WideShapes Go.ChangeAt Go.RowKit
set_option maxRecDepth 20000
set_option linter.unusedVariables false

theorem heat_nan : heatZ 9221120237041090561 = 0 := by decide +kernel
theorem heat_neg : heatZ 13830554455654793216 = 0 := by decide +kernel
theorem heat_inf : heatZ 9218868437227405312 = 2147483647 := by decide +kernel
theorem fixE_nan1 : fixE 9221120237041090561 = 28 := by decide +kernel
theorem fixE_neg1 : fixE 13830554455654793216 = 0 := by decide +kernel
theorem fixE_inf1 : fixE 9218868437227405312 = 0 := by decide +kernel
theorem bits_first : bitsZ 0 0 = 16294208416658607535 := by decide +kernel
theorem choose_nil : chooseZ [] 2 65536 0 = -1 := by decide +kernel

set_option maxHeartbeats 1000000 in
theorem works_call (w : World) : Calls Try.prog 14 #[] w fun e w' => e = .returned (.bool true) ∧ Below w.heap.size w w' := by
  have k1 := fun W => heat_call 9221120237041090561 W
  have k2 := fun W => heat_call 13830554455654793216 W
  have k3 := fun W => heat_call 9218868437227405312 W
  have kb := fun W => bits_call 0 0 W
  rw [heat_nan, fixE_nan1] at k1
  rw [heat_neg, fixE_neg1] at k2
  rw [heat_inf, fixE_inf1] at k3
  rw [bits_first] at kb
  have rl := lit2 .i64 w 2 w.heap.size rfl 0 0 (by decide) (by decide)
  have hb0 : Below w.heap.size w (w.alloc (.cells #[.int .i64 0, .int .i64 0] 2)) := below_new (Below.refl _ _) _
  have c1 := fun (W : World) (h : Reads .i64 W (some ⟨w.heap.size, 0, none⟩) 2 [0, 0]) => choose_call (some ⟨w.heap.size, 0, none⟩) 2 2 [0, 0] 2 65536 0 W h (by decide) (by decide) (by decide)
  have c2 := fun (W : World) (h : Reads .i64 W (some ⟨w.heap.size, 0, none⟩) 2 [0, 0]) => choose_call (some ⟨w.heap.size, 0, none⟩) 2 2 [0, 0] 2 65536 32768 W h (by decide) (by decide) (by decide)
  have c3 := fun (W : World) => choose_call none 0 0 [] 2 65536 0 W (Reads.nil _ _) (by decide) (by decide) (by decide)
  rw [choose_one] at c1
  rw [choose_two] at c2
  rw [choose_nil] at c3
  go_enter Try.func14, Try.ntmps14
  go_wp2_with (first
    | (go_at_call 28; refine (nan_call _).mono ?_; rintro e w' ⟨rfl, h⟩; obtain rfl := h.symm; clear h)
    | (go_at_call 29; refine (inf_call _).mono ?_; rintro e w' ⟨rfl, h⟩; obtain rfl := h.symm; clear h)
    | (go_at_call 8; refine (k1 _).mono ?_; rintro e w' ⟨rfl, h⟩; obtain rfl := h.symm; clear h k1)
    | (go_at_call 8; refine (k2 _).mono ?_; rintro e w' ⟨rfl, h⟩; obtain rfl := h.symm; clear h k2)
    | (go_at_call 8; refine (k3 _).mono ?_; rintro e w' ⟨rfl, h⟩; obtain rfl := h.symm; clear h k3)
    | (go_at_call 10; refine (kb _).mono ?_; rintro e w' ⟨rfl, h⟩; obtain rfl := h.symm; clear h kb)
    | (go_at_call 12; refine (c1 _ rl).mono ?_; rintro e w2 ⟨rfl, h1⟩; have r2 := rl.below h1; have hb2 := below_then hb0 h1; clear c1)
    | (go_at_call 12; refine (c2 _ r2).mono ?_; rintro e w3 ⟨rfl, h2⟩; have hb3 := below_then hb2 h2; clear c2)
    | (go_at_call 12; refine (c3 _).mono ?_; rintro e w4 ⟨rfl, h3⟩; have hb4 := below_then hb3 h3; clear c3))
  all_goals (go_ret; exact ⟨rfl, hb4⟩)

end Go.Proofs.Ytkoifogkdbhpcaa
