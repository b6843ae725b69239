/- The chapter example: what works. -/
import Derived.Test.YtcpnakghndfdpaaRows
import Derived.Test.YtcpnakghndfdpaaView
import Derived.Test.YtcpnakghndfdpaaCfg
import Derived.Test.YtcpnakghndfdpaaCfgs
import Derived.Test.YtcpnakghndfdpaaSteps
import Derived.Test.YtcpnakghndfdpaaHeld
import Derived.Test.YtcpnakghndfdpaaAskA
import Derived.Test.YtcpnakghndfdpaaAskC
import Derived.Test.YtcpnakghndfdpaaAskE
import Derived.Test.YtcpnakghndfdpaaCkSizes
import Derived.Test.YtcpnakghndfdpaaMdSmall
import Derived.Test.YtcpnakghndfdpaaPlain
import Derived.Test.YtcpnakghndfdpaaAdF
import Derived.Test.YtcpnakghndfdpaaAdP
import Derived.Test.YtcpnakghndfdpaaAdZ
import Derived.Test.YtcpnakghndfdpaaAdN
import Derived.WalkKit
import Derived.ProofKit
import Derived.OpenShut
import Derived.Below
import Derived.WalkLawsBesides
import Derived.Deep.QuietTactic
import Derived.BigQuiet
namespace Go.Proofs.Ytcpnakghndfdpaa
set_option maxRecDepth 20000
open Go.ChangeShapes Go.WideShapes Go.ChangeAt Go.RowKit
set_option linter.unusedVariables false
set_option linter.unusedSimpArgs false

abbrev tightF : Fq := ⟨true, false, true, false, true, 0, 0, 3, 2⟩
abbrev noneF : Fq := ⟨false, false, false, false, false, 0, 0, 0, 0⟩
abbrev cfgW : Cq := ⟨2, 1, 1, 2, 1, 0, 0, 0⟩
abbrev askW (g : Nat) : Aq := ⟨1, some ⟨g, 0, none⟩, 5, 5, 4, -1, 0, 0, 0, 0, 0⟩
theorem want_two (g : Nat) : wantZ cfgW (askW g) [0, 0, 0, 0, 0] 0 = 2 := by
  have h : checkZ cfgW (askW g) [0, 0, 0, 0, 0] = 0 := by
    unfold checkZ
    rw [if_pos (by rfl), if_neg (by simp [longZ])]
  have e1 : seqsZ (askW g) = 1 := rfl
  have e2 : rowsZ (askW g) = 9 := rfl
  have e3 : cfgW.wide = 4 := by decide
  unfold wantZ
  rw [if_pos h, e1, e2, e3]
  decide
theorem lit5 (w : World) : Reads .i64 (w.alloc (.cells #[.int .i64 0, .int .i64 0, .int .i64 0, .int .i64 0, .int .i64 0] 3)) (some ⟨w.heap.size, 0, none⟩) 5 [0, 0, 0, 0, 0] := by
  have q := Blk.new 3 w #[.int .i64 0, .int .i64 0, .int .i64 0, .int .i64 0, .int .i64 0]
  refine Reads.of_row rfl (by omega) (fun z h => by simp at h; subst h; decide) fun i hi => ?_
  match i, hi with
  | 0, _ => exact q.cell 0 rfl
  | 1, _ => exact q.cell 1 rfl
  | 2, _ => exact q.cell 2 rfl
  | 3, _ => exact q.cell 3 rfl
  | 4, _ => exact q.cell 4 rfl

set_option maxHeartbeats 4000000 in
theorem works_call (w : World) : Calls Try.prog 16 #[] w fun e w' => e = .returned (.bool true) ∧ Below w.heap.size w w' := by
  have kd1 : ∀ W, Calls Try.prog 9 #[wellF.w] W fun e w' => e = .returned (.int .i64 0) ∧ Below W.heap.size W w' := decide_call wellF
  have kd2 : ∀ W, Calls Try.prog 9 #[tightF.w] W fun e w' => e = .returned (.int .i64 6) ∧ Below W.heap.size W w' := decide_call tightF
  have kd3 : ∀ W, Calls Try.prog 9 #[noneF.w] W fun e w' => e = .returned (.int .i64 1) ∧ Below W.heap.size W w' := decide_call noneF
  have kl1 : ∀ W, Calls Try.prog 14 #[.bool true, .bool false, .int .i64 2, .int .i64 5, .int .i64 3] W fun e w' => e = .returned (.int .i64 0) ∧ w' = W := fun W => load_call true false 2 5 3 (by decide) (by decide) (by decide) (by decide) (by decide) W
  have kl2 : ∀ W, Calls Try.prog 14 #[.bool true, .bool false, .int .i64 2, .int .i64 5, .int .i64 4] W fun e w' => e = .returned (.int .i64 6) ∧ w' = W := fun W => load_call true false 2 5 4 (by decide) (by decide) (by decide) (by decide) (by decide) W
  have kl3 : ∀ W, Calls Try.prog 14 #[.bool false, .bool true, .int .i64 1, .int .i64 1, .int .i64 0] W fun e w' => e = .returned (.int .i64 1) ∧ w' = W := fun W => load_call false true 1 1 0 (by decide) (by decide) (by decide) (by decide) (by decide) W
  have kn : ∀ W : World, Calls Try.prog 12 #[cfgW.w, (askW W.heap.size).w, .int .i64 0] (W.alloc (.cells #[.int .i64 0, .int .i64 0, .int .i64 0, .int .i64 0, .int .i64 0] 3)) fun e w' => e = .returned (.int .i64 2) ∧ Below (W.alloc (.cells #[.int .i64 0, .int .i64 0, .int .i64 0, .int .i64 0, .int .i64 0] 3)).heap.size (W.alloc (.cells #[.int .i64 0, .int .i64 0, .int .i64 0, .int .i64 0, .int .i64 0] 3)) w' := fun W => by
    have := want_call cfgW (askW W.heap.size) [0, 0, 0, 0, 0] 0 (by decide) (by decide) _ (lit5 W)
    rwa [want_two] at this
  go_enter Try.func16, Try.ntmps16
  go_wp2_with (first
    | (go_at_call 29; refine (well_call w).mono ?_; rintro e W1 ⟨rfl, h1⟩; have hb := below_new h1 (.cells wellF.cs 26); have q1 := Blk.new 26 W1 wellF.cs; clear h1)
    | (go_at_call 29; refine (well_call _).mono ?_; rintro e W2 ⟨rfl, h2⟩; replace q1 := q1.kept h2; replace hb := below_new (below_new (below_then hb h2) (.cells tightF.cs 26)) (.cells cfgW.cs 31); clear h2; replace q1 : Blk 26 ((W2.alloc (.cells tightF.cs 26)).alloc (.cells cfgW.cs 31)) W1.heap.size wellF.cs := (q1.kept (below_new (Below.refl _ _) _)).kept (below_new (Below.refl _ _) _); obtain ⟨a0, a1, a2, a3, a4, a5, a6, a7, a8⟩ := q1.facts; have q2 : Blk 26 ((W2.alloc (.cells tightF.cs 26)).alloc (.cells cfgW.cs 31)) W2.heap.size tightF.cs := (Blk.new 26 W2 _).kept (below_new (Below.refl _ _) _); have q3 : Blk 31 ((W2.alloc (.cells tightF.cs 26)).alloc (.cells cfgW.cs 31)) (W2.heap.size + 1) cfgW.cs := by simpa using Blk.new 31 (W2.alloc (.cells tightF.cs 26)) cfgW.cs)
    | (go_at_call 9; refine (kd1 _).mono ?_; rintro e W3 ⟨rfl, h⟩; clear kd1 q1 a0 a1 a2 a3 a4 a5 a6 a7 a8; replace q2 := q2.kept h; replace q3 := q3.kept h; replace hb := below_then hb h; clear h; obtain ⟨a0, a1, a2, a3, a4, a5, a6, a7, a8⟩ := q2.facts)
    | (go_at_call 9; refine (kd2 _).mono ?_; rintro e W4 ⟨rfl, h⟩; clear kd2 q2 a0 a1 a2 a3 a4 a5 a6 a7 a8; replace q3 := q3.kept h; replace hb := below_then hb h; clear h)
    | (go_at_call 9; refine (kd3 _).mono ?_; rintro e W5 ⟨rfl, h⟩; clear kd3; replace q3 := q3.kept h; replace hb := below_new (below_then hb h) (.cells #[.int .i64 0, .int .i64 0, .int .i64 0, .int .i64 0, .int .i64 0] 3); clear h; obtain ⟨c0, c1, c2, c3, c4, c5, c6, c7⟩ := q3.cfg)
    | (go_at_call 12; refine (kn _).mono ?_; rintro e W6 ⟨rfl, h⟩; clear kn q3; replace hb := below_then hb h; clear h)
    | (go_at_call 14; refine (kl1 _).mono ?_; rintro e W7 ⟨rfl, rfl⟩; clear kl1)
    | (go_at_call 14; refine (kl2 _).mono ?_; rintro e W7 ⟨rfl, rfl⟩; clear kl2)
    | (go_at_call 14; refine (kl3 _).mono ?_; rintro e W7 ⟨rfl, rfl⟩; clear kl3))
  go_ret
  exact ⟨rfl, hb⟩

end Go.Proofs.Ytcpnakghndfdpaa
