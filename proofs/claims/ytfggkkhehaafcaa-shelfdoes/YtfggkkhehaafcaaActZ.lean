/- Texts put together: ActA, ActB, ActC, ActD, ActE, SameP, Act14, DoesK. -/
import Derived.Test.YtfggkkhehaafcaaRows
import Derived.Test.YtfggkkhehaafcaaPages
import Derived.Test.YtfggkkhehaafcaaView
import Derived.Test.YtfggkkhehaafcaaOwn
import Derived.Test.YtfggkkhehaafcaaReadsP
import Derived.Test.YtfggkkhehaafcaaReadsQ
import Derived.Test.YtfggkkhehaafcaaLeast
import Derived.Test.YtfggkkhehaafcaaLays
import Derived.Test.YtfggkkhehaafcaaRefPg
import Derived.Test.YtfggkkhehaafcaaRefRd
import Derived.Test.YtfggkkhehaafcaaNews
import Derived.Test.YtfggkkhehaafcaaGoods
import Derived.Test.YtfggkkhehaafcaaPlain
import Derived.Test.YtfggkkhehaafcaaNeeds
import Derived.Test.YtfggkkhehaafcaaPlace
import Derived.Test.YtfggkkhehaafcaaFetch
import Derived.Test.YtfggkkhehaafcaaFetched
import Derived.Test.YtfggkkhehaafcaaMapV
import Derived.Test.YtfggkkhehaafcaaShPlain
import Derived.Test.YtfggkkhehaafcaaShActs
import Derived.Test.YtfggkkhehaafcaaShAt
import Derived.Test.YtfggkkhehaafcaaIndex
import Derived.Test.YtfggkkhehaafcaaShLoose
import Derived.Test.YtfggkkhehaafcaaShBring
import Derived.Test.YtfggkkhehaafcaaWorksK
import Derived.Test.YtfggkkhehaafcaaOpenOps
import Derived.Test.YtfggkkhehaafcaaDocA
import Derived.Test.YtfggkkhehaafcaaPlaces
import Derived.Test.YtfggkkhehaafcaaLies
import Derived.Test.YtfggkkhehaafcaaRelease
import Derived.Test.YtfggkkhehaafcaaRefRel
import Derived.Test.YtfggkkhehaafcaaTurns
import Derived.Test.YtfggkkhehaafcaaRefTurns
import Derived.Test.YtfggkkhehaafcaaRefTk
import Derived.Test.YtfggkkhehaafcaaRefLays
import Derived.Test.YtfggkkhehaafcaaShTurn
import Derived.Test.YtfggkkhehaafcaaShIn
import Derived.Test.YtfggkkhehaafcaaInvIn
import Derived.Test.YtfggkkhehaafcaaDocB
import Derived.Test.YtfggkkhehaafcaaDsPinC
import Derived.Test.YtfggkkhehaafcaaDocC
import Derived.WalkKit
import Derived.ProofKit
import Derived.OpenShut
import Derived.Below
import Derived.WalkLawsBesides
import Derived.Deep.QuietTactic
import Derived.BigQuiet
import Derived.Maps.OwnSet
import Derived.Laws.OwnMore
import Derived.Maps.AppendAt
import Derived.OwnWalk
import Derived.Deep.RegionHeld3
import Derived.Test.YtfggkkhehaafcaaCopies
import Derived.Test.YtfggkkhehaafcaaPutReg
import Derived.Test.YtfggkkhehaafcaaRegZ
namespace Go.Proofs.Ytfggkkhehaafcaa

/- act: Remove, Pin, Unpin. -/
section
open Go.ChangeShapes Go.WideShapes Go.ChangeAt Go.RowKit
set_option linter.unusedVariables false
set_option linter.unusedSimpArgs false

set_option maxHeartbeats 4000000 in
theorem act_remove {B : Nat} {u w : World} {x mb b g y p g' : Nat} {s : Pl} {L : List It} {cap : Nat} (h : Bt B u x mb b g y p g' s L cap w) (hc : cap ≤ 800) (ot : ByteArray) (hn : ot.size ≤ maxLen) (wa : Option Addr) (wn wc : Nat) (on : Int) :
    Calls Try.prog 10 #[.pointer (some ⟨x, 0, none⟩), .pointer (some ⟨b, 0, none⟩), .pointer (some ⟨y, 0, none⟩), .agg #[.int .i64 1, .string ot, .slice wa wn wc, .int .i64 on]] w fun e w' => e = .returned (.bool true) ∧ ∃ s' L', Bt B u x mb b g y p g' s' L' (cap + 1) w' := by
  have hbA := below_new (Below.refl w.heap.size w) (.cells #[.int .i64 1, .string ot, .slice wa wn wc, .int .i64 on] 39)
  have hbx := BoxO.new w ⟨1, ot, ⟨wa, wn, wc⟩, [], on⟩
  unfold boxC at hbx
  simp only at hbx
  obtain ⟨A, eA⟩ : ∃ A, w.alloc (.cells #[.int .i64 1, .string ot, .slice wa wn wc, .int .i64 on] 39) = A := ⟨_, rfl⟩
  rw [eA] at hbA hbx
  obtain ⟨ob, eob⟩ : ∃ ob, w.heap.size = ob := ⟨_, rfl⟩
  rw [eob] at hbx
  obtain ⟨d0, d1, d2, d3⟩ := hbx.cells
  simp only at d0 d1 d2 d3
  have kP := bt_remove ((h.below hbA).drewN 1) hc (show BoxO (A.drewN 1) ob _ from hbx) ot hn
  obtain ⟨E, eE⟩ : ∃ E, remE L ot = E := ⟨_, rfl⟩
  simp only [eE] at kP
  have vE : (E == E) = true := by simp
  clear h hbA hbx eE
  go_enter Try.func10, Try.ntmps10
  go_wp2
  go_region_held3 (fun W => W.cell? ⟨ob, 1, none⟩ = some (.string ot)) (first | assumption | (exact d1) | exact q1) (first
    | (go_at_call 26; refine kP.mono ?_; rintro e W1 ⟨rfl, b1, kD⟩; have q1 := b1.cells.2.1; simp only at q1; clear kP b1)
    | (go_at_call 31; refine kD.mono ?_; rintro e W2 ⟨rfl, b2, hB2⟩; have q2 := b2.cells.2.1; simp only at q2; have HB := hidden_ hB2; clear kD b2 hB2))
  all_goals
    go_wp2
    go_ret
    exact ⟨rfl, _, _, HB.out⟩

set_option maxHeartbeats 4000000 in
theorem act_pin {B : Nat} {u w : World} {x mb b g y p g' : Nat} {s : Pl} {L : List It} {cap : Nat} (h : Bt B u x mb b g y p g' s L cap w) (hc : cap ≤ 800) (ot : ByteArray) (hn : ot.size ≤ maxLen) (wa : Option Addr) (wn wc : Nat) (on : Int) :
    Calls Try.prog 10 #[.pointer (some ⟨x, 0, none⟩), .pointer (some ⟨b, 0, none⟩), .pointer (some ⟨y, 0, none⟩), .agg #[.int .i64 2, .string ot, .slice wa wn wc, .int .i64 on]] w fun e w' => e = .returned (.bool true) ∧ ∃ s' L', Bt B u x mb b g y p g' s' L' (cap + 1) w' := by
  have hbA := below_new (Below.refl w.heap.size w) (.cells #[.int .i64 2, .string ot, .slice wa wn wc, .int .i64 on] 39)
  have hbx := BoxO.new w ⟨2, ot, ⟨wa, wn, wc⟩, [], on⟩
  unfold boxC at hbx
  simp only at hbx
  obtain ⟨A, eA⟩ : ∃ A, w.alloc (.cells #[.int .i64 2, .string ot, .slice wa wn wc, .int .i64 on] 39) = A := ⟨_, rfl⟩
  rw [eA] at hbA hbx
  obtain ⟨ob, eob⟩ : ∃ ob, w.heap.size = ob := ⟨_, rfl⟩
  rw [eob] at hbx
  obtain ⟨d0, d1, d2, d3⟩ := hbx.cells
  simp only at d0 d1 d2 d3
  have kP := bt_pin ((h.below hbA).drewN 1) hc (show BoxO (A.drewN 1) ob _ from hbx) ot hn
  obtain ⟨E, eE⟩ : ∃ E, pinE s L ot = E := ⟨_, rfl⟩
  simp only [eE] at kP
  have vE : (E == E) = true := by simp
  clear h hbA hbx eE
  go_enter Try.func10, Try.ntmps10
  go_wp2
  go_region_held3 (fun W => W.cell? ⟨ob, 1, none⟩ = some (.string ot)) (first | assumption | (exact d1) | exact q1) (first
    | (go_at_call 24; refine kP.mono ?_; rintro e W1 ⟨rfl, b1, kD⟩; have q1 := b1.cells.2.1; simp only at q1; clear kP b1)
    | (go_at_call 32; refine kD.mono ?_; rintro e W2 ⟨rfl, b2, hB2⟩; have q2 := b2.cells.2.1; simp only at q2; have HB := hidden_ hB2; clear kD b2 hB2))
  all_goals
    go_wp2
    go_ret
    exact ⟨rfl, _, _, HB.out⟩

set_option maxHeartbeats 4000000 in
theorem act_unpin {B : Nat} {u w : World} {x mb b g y p g' : Nat} {s : Pl} {L : List It} {cap : Nat} (h : Bt B u x mb b g y p g' s L cap w) (hc : cap ≤ 800) (ot : ByteArray) (hn : ot.size ≤ maxLen) (wa : Option Addr) (wn wc : Nat) (on : Int) :
    Calls Try.prog 10 #[.pointer (some ⟨x, 0, none⟩), .pointer (some ⟨b, 0, none⟩), .pointer (some ⟨y, 0, none⟩), .agg #[.int .i64 3, .string ot, .slice wa wn wc, .int .i64 on]] w fun e w' => e = .returned (.bool true) ∧ ∃ s' L', Bt B u x mb b g y p g' s' L' (cap + 1) w' := by
  have hbA := below_new (Below.refl w.heap.size w) (.cells #[.int .i64 3, .string ot, .slice wa wn wc, .int .i64 on] 39)
  have hbx := BoxO.new w ⟨3, ot, ⟨wa, wn, wc⟩, [], on⟩
  unfold boxC at hbx
  simp only at hbx
  obtain ⟨A, eA⟩ : ∃ A, w.alloc (.cells #[.int .i64 3, .string ot, .slice wa wn wc, .int .i64 on] 39) = A := ⟨_, rfl⟩
  rw [eA] at hbA hbx
  obtain ⟨ob, eob⟩ : ∃ ob, w.heap.size = ob := ⟨_, rfl⟩
  rw [eob] at hbx
  obtain ⟨d0, d1, d2, d3⟩ := hbx.cells
  simp only at d0 d1 d2 d3
  have kP := bt_unpin ((h.below hbA).drewN 1) hc (show BoxO (A.drewN 1) ob _ from hbx) ot hn
  obtain ⟨E, eE⟩ : ∃ E, unpE L ot = E := ⟨_, rfl⟩
  simp only [eE] at kP
  have vE : (E == E) = true := by simp
  clear h hbA hbx eE
  go_enter Try.func10, Try.ntmps10
  go_wp2
  go_region_held3 (fun W => W.cell? ⟨ob, 1, none⟩ = some (.string ot)) (first | assumption | (exact d1) | exact q1) (first
    | (go_at_call 25; refine kP.mono ?_; rintro e W1 ⟨rfl, b1, kD⟩; have q1 := b1.cells.2.1; simp only at q1; clear kP b1)
    | (go_at_call 33; refine kD.mono ?_; rintro e W2 ⟨rfl, b2, hB2⟩; have q2 := b2.cells.2.1; simp only at q2; have HB := hidden_ hB2; clear kD b2 hB2))
  all_goals
    go_wp2
    go_ret
    exact ⟨rfl, _, _, HB.out⟩
end

/- act: Yield, Reserve. -/
section
open Go.ChangeShapes Go.WideShapes Go.ChangeAt Go.RowKit
set_option linter.unusedVariables false
set_option linter.unusedSimpArgs false

set_option maxHeartbeats 4000000 in
theorem act_yield {B : Nat} {u w : World} {x mb b g y p g' : Nat} {s : Pl} {L : List It} {cap : Nat} (h : Bt B u x mb b g y p g' s L cap w) (hc : cap ≤ 800) (ot : ByteArray) (hn : ot.size ≤ maxLen) (wa : Option Addr) (wn wc : Nat) (on : Int) :
    Calls Try.prog 10 #[.pointer (some ⟨x, 0, none⟩), .pointer (some ⟨b, 0, none⟩), .pointer (some ⟨y, 0, none⟩), .agg #[.int .i64 7, .string ot, .slice wa wn wc, .int .i64 on]] w fun e w' => e = .returned (.bool true) ∧ ∃ s' L', Bt B u x mb b g y p g' s' L' (cap + 1) w' := by
  have hbA := below_new (Below.refl w.heap.size w) (.cells #[.int .i64 7, .string ot, .slice wa wn wc, .int .i64 on] 39)
  have hbx := BoxO.new w ⟨7, ot, ⟨wa, wn, wc⟩, [], on⟩
  unfold boxC at hbx
  simp only at hbx
  obtain ⟨A, eA⟩ : ∃ A, w.alloc (.cells #[.int .i64 7, .string ot, .slice wa wn wc, .int .i64 on] 39) = A := ⟨_, rfl⟩
  rw [eA] at hbA hbx
  obtain ⟨ob, eob⟩ : ∃ ob, w.heap.size = ob := ⟨_, rfl⟩
  rw [eob] at hbx
  obtain ⟨d0, d1, d2, d3⟩ := hbx.cells
  simp only at d0 d1 d2 d3
  have dy := (h.below hbA).ptr
  have kP := bt_yield (h.below hbA) hc hbx
  obtain ⟨E, eE⟩ : ∃ E, yieldB L = E := ⟨_, rfl⟩
  simp only [eE] at kP
  have vE : (E == E) = true := by simp
  clear h hbA hbx eE
  go_enter Try.func10, Try.ntmps10
  go_wp2_with (first
    | (go_at_call 28; refine kP.mono ?_; rintro e W1 ⟨rfl, b1, kD⟩; clear kP b1)
    | (go_at_call 41; refine kD.mono ?_; rintro e W2 ⟨rfl, b2, hB2⟩; have HB := hidden_ hB2; clear kD b2 hB2))
  go_ret
  exact ⟨rfl, _, _, HB.out⟩

set_option maxHeartbeats 4000000 in
theorem act_reserve {B : Nat} {u w : World} {x mb b g y p g' : Nat} {s : Pl} {L : List It} {cap : Nat} (h : Bt B u x mb b g y p g' s L cap w) (hc : cap ≤ 800) (ot : ByteArray) (hn : ot.size ≤ maxLen) (wa : Option Addr) (wn wc : Nat) (on : Int) :
    Calls Try.prog 10 #[.pointer (some ⟨x, 0, none⟩), .pointer (some ⟨b, 0, none⟩), .pointer (some ⟨y, 0, none⟩), .agg #[.int .i64 6, .string ot, .slice wa wn wc, .int .i64 on]] w fun e w' => e = .returned (.bool true) ∧ ∃ s' L', Bt B u x mb b g y p g' s' L' (cap + 1) w' := by
  have hbA := below_new (Below.refl w.heap.size w) (.cells #[.int .i64 6, .string ot, .slice wa wn wc, .int .i64 on] 39)
  have hbx := BoxO.new w ⟨6, ot, ⟨wa, wn, wc⟩, [], on⟩
  unfold boxC at hbx
  simp only at hbx
  obtain ⟨A, eA⟩ : ∃ A, w.alloc (.cells #[.int .i64 6, .string ot, .slice wa wn wc, .int .i64 on] 39) = A := ⟨_, rfl⟩
  rw [eA] at hbA hbx
  obtain ⟨ob, eob⟩ : ∃ ob, w.heap.size = ob := ⟨_, rfl⟩
  rw [eob] at hbx
  obtain ⟨d0, d1, d2, d3⟩ := hbx.cells
  simp only at d0 d1 d2 d3
  have dy := (h.below hbA).ptr
  have kP := bt_reserve ((h.below hbA).drewN 1) on (show BoxO (A.drewN 1) ob _ from hbx)
  obtain ⟨E, eE⟩ : ∃ E, resE s on = E := ⟨_, rfl⟩
  simp only [eE] at kP
  have vE : (E == E) = true := by simp
  clear h hbA hbx eE
  go_enter Try.func10, Try.ntmps10
  go_wp2
  go_region_held3 (fun W => W.cell? ⟨y, 0, none⟩ = some (.pointer (some ⟨p, 0, none⟩)) ∧ W.cell? ⟨ob, 3, none⟩ = some (.int .i64 on)) (first | assumption | (exact ⟨dy, d3⟩) | exact q1 | exact q2) (first
    | (go_at_call 39; refine kP.mono ?_; rintro e W1 ⟨rfl, b1, y1, kD⟩; have q1 := And.intro y1 b1.cells.2.2.2; simp only at q1; clear kP b1 y1)
    | (go_at_call 40; refine kD.mono ?_; rintro e W2 ⟨rfl, b2, hB2, y2⟩; have q2 := And.intro y2 b2.cells.2.2.2; simp only at q2; have HB := hidden_ hB2; clear kD b2 hB2 y2))
  all_goals
    go_wp2
    go_ret
    exact ⟨rfl, _, _, HB.out⟩
end

/- act: Take. -/
section
open Go.ChangeShapes Go.WideShapes Go.ChangeAt Go.RowKit
set_option linter.unusedVariables false
set_option linter.unusedSimpArgs false

set_option maxHeartbeats 4000000 in
theorem act_take {B : Nat} {u w : World} {x mb b g y p g' : Nat} {s : Pl} {L : List It} {cap : Nat} (h : Bt B u x mb b g y p g' s L cap w) (hc : cap ≤ 800) (ot : ByteArray) (hn : ot.size ≤ maxLen) (wa : Option Addr) (wn wc : Nat) (on : Int) :
    Calls Try.prog 10 #[.pointer (some ⟨x, 0, none⟩), .pointer (some ⟨b, 0, none⟩), .pointer (some ⟨y, 0, none⟩), .agg #[.int .i64 4, .string ot, .slice wa wn wc, .int .i64 on]] w fun e w' => e = .returned (.bool true) ∧ ∃ s' L', Bt B u x mb b g y p g' s' L' (cap + 1) w' := by
  have hbA := below_new (Below.refl w.heap.size w) (.cells #[.int .i64 4, .string ot, .slice wa wn wc, .int .i64 on] 39)
  have hbx := BoxO.new w ⟨4, ot, ⟨wa, wn, wc⟩, [], on⟩
  unfold boxC at hbx
  simp only at hbx
  obtain ⟨A, eA⟩ : ∃ A, w.alloc (.cells #[.int .i64 4, .string ot, .slice wa wn wc, .int .i64 on] 39) = A := ⟨_, rfl⟩
  rw [eA] at hbA hbx
  obtain ⟨ob, eob⟩ : ∃ ob, w.heap.size = ob := ⟨_, rfl⟩
  rw [eob] at hbx
  obtain ⟨d0, d1, d2, d3⟩ := hbx.cells
  simp only at d0 d1 d2 d3
  have dy := (h.below hbA).ptr
  have kP := bt_take (h.below hbA) ⟨#[111, 116, 104, 101, 114]⟩ on hbx
  obtain ⟨E, eE⟩ : ∃ E, takeE s ⟨#[111, 116, 104, 101, 114]⟩ on = E := ⟨_, rfl⟩
  simp only [eE] at kP
  have vE : (E == E) = true := by simp
  clear h hbA hbx eE
  go_enter Try.func10, Try.ntmps10
  go_wp2_with (first
    | (go_at_call 34; refine kP.mono ?_; rintro e W1 ⟨a1, l1, c1, rfl, b1, y1, kD⟩; have kD' := kD 1; have e3 := b1.cells.2.2.2; simp only at e3; clear kP b1 kD))
  go_region_with (first
    | (go_at_call 35; refine kD'.mono ?_; rintro e W2 ⟨a2, l2, c2, rfl, b2, hB2⟩; have HB := hidden_ hB2; clear kD' b2 hB2))
  all_goals
    go_wp2
    go_ret
    exact ⟨rfl, _, _, HB.out⟩
end

/- act: Drop. -/
section
open Go.ChangeShapes Go.WideShapes Go.ChangeAt Go.RowKit
set_option linter.unusedVariables false
set_option linter.unusedSimpArgs false

set_option maxHeartbeats 4000000 in
theorem act_drop {B : Nat} {u w : World} {x mb b g y p g' : Nat} {s : Pl} {L : List It} {cap : Nat} (h : Bt B u x mb b g y p g' s L cap w) (hc : cap ≤ 800) (ot : ByteArray) (hn : ot.size ≤ maxLen) (wa : Option Addr) (wn wc : Nat) (on : Int) :
    Calls Try.prog 10 #[.pointer (some ⟨x, 0, none⟩), .pointer (some ⟨b, 0, none⟩), .pointer (some ⟨y, 0, none⟩), .agg #[.int .i64 5, .string ot, .slice wa wn wc, .int .i64 on]] w fun e w' => e = .returned (.bool true) ∧ ∃ s' L', Bt B u x mb b g y p g' s' L' (cap + 1) w' := by
  have hbA := below_new (Below.refl w.heap.size w) (.cells #[.int .i64 5, .string ot, .slice wa wn wc, .int .i64 on] 39)
  have hbx := BoxO.new w ⟨5, ot, ⟨wa, wn, wc⟩, [], on⟩
  unfold boxC at hbx
  simp only at hbx
  obtain ⟨A, eA⟩ : ∃ A, w.alloc (.cells #[.int .i64 5, .string ot, .slice wa wn wc, .int .i64 on] 39) = A := ⟨_, rfl⟩
  rw [eA] at hbA hbx
  obtain ⟨ob, eob⟩ : ∃ ob, w.heap.size = ob := ⟨_, rfl⟩
  rw [eob] at hbx
  obtain ⟨d0, d1, d2, d3⟩ := hbx.cells
  simp only at d0 d1 d2 d3
  have dy := (h.below hbA).ptr
  have kT := fun m => bt_tag (h.below hbA) on m
  by_cases ht : tagZ s on = tOther
  · rw [ht] at kT
    have kP := fun m => bt_drop ((h.below hbA).drewN m) on ht (show BoxO (A.drewN m) ob _ from hbx)
    obtain ⟨E, eE⟩ : ∃ E, shE s on = E := ⟨_, rfl⟩
    simp only [eE] at kP
    simp only [tOther] at kT
    have vE : (E == E) = true := by simp
    clear h hbA hbx eE ht
    go_enter Try.func10, Try.ntmps10
    go_wp2
    go_quiet (first | (go_at_call 36; exact Calls.quiet_of_same (kT _)))
    go_wp2
    have kP' := kP (nq + 1)
    rw [← World.drewN_drewN] at kP'
    go_region_held3 (fun W => W.cell? ⟨y, 0, none⟩ = some (.pointer (some ⟨p, 0, none⟩)) ∧ W.cell? ⟨ob, 3, none⟩ = some (.int .i64 on)) (first | assumption | (exact ⟨dy, d3⟩) | exact q1 | exact q2) (first
      | (go_at_call 37; refine kP'.mono ?_; rintro e W1 ⟨rfl, b1, y1, kD⟩; have q1 := And.intro y1 b1.cells.2.2.2; simp only at q1; clear kP' b1 y1)
      | (go_at_call 38; refine kD.mono ?_; rintro e W2 ⟨rfl, b2, hB2, y2⟩; have q2 := And.intro y2 b2.cells.2.2.2; simp only at q2; have HB := hidden_ hB2; clear kD b2 hB2 y2))
    all_goals
      go_wp2
      go_ret
      exact ⟨rfl, _, _, HB.out⟩
  · obtain ⟨T, eT⟩ : ∃ T, tagZ s on = T := ⟨_, rfl⟩
    rw [eT] at kT ht
    have q : (T.toList == [111, 116, 104, 101, 114]) = false := by
      have := text_other (a := T) (b := ⟨#[111, 116, 104, 101, 114]⟩) ht
      simpa using this
    have HB := hidden_ (h.below hbA)
    clear h hbA hbx eT ht
    go_enter Try.func10, Try.ntmps10
    go_wp2
    go_quiet (first | (go_at_call 36; exact Calls.quiet_of_same (kT _)))
    go_wp2
    go_ret
    obtain ⟨⟨a, hs⟩, hd, hu⟩ := HB.out.drewN nq
    exact ⟨rfl, s, L, ⟨⟨a, hs.mono (Nat.le_succ _)⟩, hd, hu⟩⟩
end

/- act: Put. -/
section
open Go.ChangeShapes Go.WideShapes Go.ChangeAt Go.RowKit
set_option linter.unusedVariables false
set_option linter.unusedSimpArgs false

set_option maxHeartbeats 4000000 in
theorem act_put {B : Nat} {u w : World} {x mb b g y p g' : Nat} {s : Pl} {L : List It} {cap : Nat} (h : Bt B u x mb b g y p g' s L cap w) (hc : cap ≤ 800) {u0 : World} (hu0 : Below B u0 u) (hBu : u0.heap.size ≤ B) (zw : List Int) (ot : ByteArray) (hn : ot.size ≤ maxLen) (wa : Option Addr) (wn wc : Nat) (on : Int) (hok : OpOk u0 ⟨0, ot, ⟨wa, wn, wc⟩, zw, on⟩) (h2 : wn ≤ 2000) :
    Calls Try.prog 10 #[.pointer (some ⟨x, 0, none⟩), .pointer (some ⟨b, 0, none⟩), .pointer (some ⟨y, 0, none⟩), .agg #[.int .i64 0, .string ot, .slice wa wn wc, .int .i64 on]] w fun e w' => e = .returned (.bool true) ∧ ∃ s' L', Bt B u x mb b g y p g' s' L' (cap + 1) w' := by
  have hbA := below_new (Below.refl w.heap.size w) (.cells #[.int .i64 0, .string ot, .slice wa wn wc, .int .i64 on] 39)
  have hbx := BoxO.new w ⟨0, ot, ⟨wa, wn, wc⟩, zw, on⟩
  unfold boxC at hbx
  simp only at hbx
  obtain ⟨A, eA⟩ : ∃ A, w.alloc (.cells #[.int .i64 0, .string ot, .slice wa wn wc, .int .i64 on] 39) = A := ⟨_, rfl⟩
  rw [eA] at hbA hbx
  obtain ⟨ob, eob⟩ : ∃ ob, w.heap.size = ob := ⟨_, rfl⟩
  rw [eob] at hbx
  obtain ⟨d0, d1, d2, d3⟩ := hbx.cells
  simp only at d0 d1 d2 d3
  have dy := (h.below hbA).ptr
  have hA := h.below hbA
  have hrW : Reads .i8 A wa wn zw := hok.rw_.carry fun q v hq => ((hu0.trans hA.2.2.1).cell (Nat.lt_of_lt_of_le (World.block_lt_of_cell? u0 q hq) hBu)).trans hq
  obtain ⟨ca, cc, V2, hcp, hrow, hbw⟩ := run_copyB A.drew 37 wa wn wc zw (hrW.drewN 1) (by omega)
  have hbw' : Below A.heap.size A V2 := ⟨hbw.os, hbw.tape, hbw.output, hbw.size, hbw.block⟩
  have hx2 := hbx.below hbw'
  have kP := bt_put (hA.below hbw') hc hu0 hBu hx2 hok h2 ca cc hrow.reads (fun e => by
    rcases hrow.own.2 with ⟨h1, _⟩ | ⟨g', cap, cur, h1, _⟩
    · simp only [Value.slice.injEq] at h1; exact h1.2.2
    · simp only [Value.slice.injEq] at h1; rw [e] at h1; cases h1.1)
  simp only at kP
  have hxD : BoxO A.drew ob ⟨0, ot, ⟨wa, wn, wc⟩, zw, on⟩ := hbx
  have hxD1 : BoxO (A.drew.alloc (.cells #[] 59)) ob ⟨0, ot, ⟨wa, wn, wc⟩, zw, on⟩ := hxD.below (below_new (Below.refl _ _) _)
  obtain ⟨E, eE⟩ : ∃ E, putE L ot = E := ⟨_, rfl⟩
  simp only [eE] at kP
  have vE : (E == E) = true := by simp
  clear h hbA eE hA
  go_enter Try.func10, Try.ntmps10
  go_wp2
  refine ac_region x y ⟨ob, 0, none⟩ A.heap.size ot wa wn wc ca wn cc E E V2 (fun W => BoxO W ob ⟨0, ot, ⟨wa, wn, wc⟩, zw, on⟩) (fun W => _) (fun W => _) (by kernel_rfl) rfl ⟨_, rfl, rfl, rfl, rfl, by kernel_rfl⟩ ⟨_, rfl, rfl, rfl, rfl, by kernel_rfl⟩ ⟨_, rfl, rfl, rfl, rfl, by kernel_rfl⟩ ⟨_, rfl, rfl, rfl, rfl, by kernel_rfl⟩ ⟨_, rfl, rfl, rfl, rfl, by kernel_rfl⟩ ⟨_, rfl, rfl, rfl, rfl, by kernel_rfl⟩ ⟨_, rfl, rfl, rfl, rfl, by kernel_rfl⟩ ⟨_, rfl, rfl, rfl, rfl, by kernel_rfl⟩ ⟨_, rfl, rfl, rfl, rfl, by kernel_rfl⟩ ⟨_, rfl, rfl, rfl, rfl, by kernel_rfl⟩ ⟨_, rfl, rfl, rfl, rfl, by kernel_rfl⟩ ⟨_, rfl, rfl, rfl, rfl, by kernel_rfl⟩ ⟨_, rfl, rfl, rfl, rfl, by kernel_rfl⟩ ⟨_, rfl, rfl, rfl, rfl, by kernel_rfl⟩ ⟨_, rfl, rfl, rfl, rfl, by kernel_rfl⟩ ⟨_, rfl, rfl, rfl, rfl, by kernel_rfl⟩ 37 (fun o h => by cases h; rfl) hxD hxD1 hx2 (fun _ h => h.1) rfl rfl rfl rfl (fun W h => run_load9 h.cells.2.1) (fun W h => run_load37 h.cells.2.2.1) hcp kP (fun W h => h.2) (Nat.le_of_ble_eq_true rfl) ?_
  · intro Z W3 hs hd hkp hval hx3
    have e8 : Z.tmps.getD 8 undef = .bool (E == E) := hval 15 8 (by decide) rfl
    rw [vE] at e8
    have ep := frame_puts [17, 18, 19, 20, 21, 22, 23, 24, 25, 26, 27, 28, 29, 30, 31, 8] hs hd (fun s h => hkp s (fun i hi e => h (by
      rcases (show i = 0 ∨ i = 1 ∨ i = 2 ∨ i = 3 ∨ i = 4 ∨ i = 5 ∨ i = 6 ∨ i = 7 ∨ i = 8 ∨ i = 9 ∨ i = 10 ∨ i = 11 ∨ i = 12 ∨ i = 13 ∨ i = 14 ∨ i = 15 by omega) with rfl | rfl | rfl | rfl | rfl | rfl | rfl | rfl | rfl | rfl | rfl | rfl | rfl | rfl | rfl | rfl <;> (simp only [acD, Option.some.injEq] at e; subst e; simp))))
    simp only [List.foldl] at ep
    rw [e8] at ep
    have HB := hidden_ hx3.2
    clear hs hd hkp hval hx3 e8 kP hcp hbw hbw' hrow hxD hxD1 hx2
    generalize Z.tmps.getD 17 undef = g17 at ep
    generalize Z.tmps.getD 18 undef = g18 at ep
    generalize Z.tmps.getD 19 undef = g19 at ep
    generalize Z.tmps.getD 20 undef = g20 at ep
    generalize Z.tmps.getD 21 undef = g21 at ep
    generalize Z.tmps.getD 22 undef = g22 at ep
    generalize Z.tmps.getD 23 undef = g23 at ep
    generalize Z.tmps.getD 24 undef = g24 at ep
    generalize Z.tmps.getD 25 undef = g25 at ep
    generalize Z.tmps.getD 26 undef = g26 at ep
    generalize Z.tmps.getD 27 undef = g27 at ep
    generalize Z.tmps.getD 28 undef = g28 at ep
    generalize Z.tmps.getD 29 undef = g29 at ep
    generalize Z.tmps.getD 30 undef = g30 at ep
    generalize Z.tmps.getD 31 undef = g31 at ep
    simp only [Act.put, List.setIfInBounds_toArray, List.set_cons_succ, List.set_cons_zero] at ep
    subst ep
    go_wp2
    go_ret
    exact ⟨rfl, _, _, HB.out⟩
end

/- Whether both pools tell the same: the contract of the call. -/
section
open Go.ChangeShapes Go.WideShapes Go.ChangeAt Go.RowKit
set_option linter.unusedVariables false

theorem samePools_call {B B' m : Nat} {w : World} {b g b' g' : Nat} {s : Pl} {r : Nat → Nat} (h : PoolAt B w b g s) (h' : RefAt B' w b' g' s r) (hG : Good m s) :
    Calls Try.prog 21 #[.pointer (some ⟨b, 0, none⟩), .pointer (some ⟨b', 0, none⟩)] w fun e w' => e = .returned (.bool true) ∧ ∃ m, w' = w.drewN m := by
  have n1 := hG.n1
  have k22 := sizes_call h n1
  have k36 := fun m => refFree_call (h'.drewN m) n1
  have t0 := fun m => (h'.drewN m).t0
  have t1 := fun m => (h'.drewN m).t1
  have ks := hidden_ fun (m : Nat) (z : Int) => And.intro (owners_call (h.drewN m) n1 z) (And.intro (refOwners_call (h'.drewN m) n1 hG.ow0 z) (And.intro (tag_call (h.drewN m) n1 z) (refTag_call (h'.drewN m) n1 hG.ow0 z)))
  have HS := hidden_ t0
  obtain ⟨F, eF⟩ : ∃ F, freeTo s.pg s.n = F := ⟨_, rfl⟩
  simp only [eF] at k22 k36
  obtain ⟨A, eA⟩ : ∃ A, s.aside = A := ⟨_, rfl⟩
  simp only [eA] at k22 t1
  obtain ⟨n, eN⟩ : ∃ n, s.n = n := ⟨_, rfl⟩
  rw [eN] at n1
  simp only [eN] at k22 t0 HS
  clear eF eA eN h h' hG
  go_enter Try.func21, Try.ntmps21
  go_wp2_with (first
    | (go_at_call 27; refine k22.mono ?_; rintro e W1 ⟨rfl, m1, h1⟩; have HW := hidden_ h1; replace k36 := k36 m1; replace t0 := t0 m1; replace t1 := t1 m1; rw [← h1] at k36 t0 t1; clear h1 k22)
    | (go_at_call 50; refine k36.mono ?_; rintro e W2 ⟨rfl, h2⟩; obtain rfl := h2.symm; clear k36))
  go_loopw [8] (fun i wr => ∃ k : Nat, k ≤ n + 2 ∧ i = .int .i64 ((k : Int) - 1) ∧ wr = W1) (fun i _ => (n : Int).toNat + 2 - (intOf i + 1).toNat)
  case atStart => exact ⟨0, Nat.zero_le _, rfl, rfl⟩
  case round =>
    obtain ⟨k, hk, rfl, hw⟩ := hrel
    subst hw
    obtain ⟨Z, eZ⟩ : ∃ Z, (k : Int) - 1 = Z := ⟨_, rfl⟩
    have HZ := hidden_ eZ
    have z0 : -1 ≤ Z := by omega
    have z1 : Z ≤ n + 1 := by omega
    rw [eZ]
    by_cases hlt : k < n + 2
    · have hlt' : Z ≤ (n : Int) := by omega
      obtain ⟨k23, k37, k24, k38⟩ := ks.out m1 Z
      rw [← HW.out] at k23 k37 k24 k38
      obtain ⟨O, eO⟩ : ∃ O, owZ s Z = O := ⟨_, rfl⟩
      obtain ⟨T, eT⟩ : ∃ T, tagZ s Z = T := ⟨_, rfl⟩
      rw [eO] at k23 k37
      rw [eT] at k24 k38
      clear eO eT eZ
      go_wp2_with (first
        | (go_at_call 51; refine k23.mono ?_; rintro e W2 ⟨rfl, h2⟩; obtain rfl := h2.symm; clear k23)
        | (go_at_call 52; refine k37.mono ?_; rintro e W2 ⟨rfl, h2⟩; obtain rfl := h2.symm; clear k37)
        | (go_at_call 53; refine k24.mono ?_; rintro e W2 ⟨rfl, h2⟩; obtain rfl := h2.symm; clear k24)
        | (go_at_call 36; refine k38.mono ?_; rintro e W2 ⟨rfl, h2⟩; obtain rfl := h2.symm; clear k38))
      go_roundw
      case rel => exact ⟨k + 1, by omega, by have := HZ.out; congr 1; omega, trivial⟩
      case measure => have := HZ.out; simp [intOf]; omega
    · have hlt' : (n : Int) < Z := by omega
      clear eZ ks
      go_wp2
      go_ret
      exact ⟨rfl, m1, HW.out⟩
end

/- act, whatever the kind. -/
section
open Go.ChangeShapes Go.WideShapes Go.ChangeAt Go.RowKit
set_option linter.unusedVariables false
set_option linter.unusedSimpArgs false

set_option maxHeartbeats 4000000 in
theorem act_else {B : Nat} {u w : World} {x mb b g y p g' : Nat} {s : Pl} {L : List It} {cap : Nat} (h : Bt B u x mb b g y p g' s L cap w) (hc : cap ≤ 800) (ok : Int) (n0 : ¬ ok = 0) (n1 : ¬ ok = 1) (n2 : ¬ ok = 2) (n3 : ¬ ok = 3) (n4 : ¬ ok = 4) (n5 : ¬ ok = 5) (n6 : ¬ ok = 6) (n7 : ¬ ok = 7) (ot : ByteArray) (hn : ot.size ≤ maxLen) (wa : Option Addr) (wn wc : Nat) (on : Int) :
    Calls Try.prog 10 #[.pointer (some ⟨x, 0, none⟩), .pointer (some ⟨b, 0, none⟩), .pointer (some ⟨y, 0, none⟩), .agg #[.int .i64 ok, .string ot, .slice wa wn wc, .int .i64 on]] w fun e w' => e = .returned (.bool true) ∧ ∃ s' L', Bt B u x mb b g y p g' s' L' (cap + 1) w' := by
  have hbA := below_new (Below.refl w.heap.size w) (.cells #[.int .i64 ok, .string ot, .slice wa wn wc, .int .i64 on] 39)
  have hbx := BoxO.new w ⟨ok, ot, ⟨wa, wn, wc⟩, [], on⟩
  unfold boxC at hbx
  simp only at hbx
  obtain ⟨A, eA⟩ : ∃ A, w.alloc (.cells #[.int .i64 ok, .string ot, .slice wa wn wc, .int .i64 on] 39) = A := ⟨_, rfl⟩
  rw [eA] at hbA hbx
  obtain ⟨ob, eob⟩ : ∃ ob, w.heap.size = ob := ⟨_, rfl⟩
  rw [eob] at hbx
  obtain ⟨d0, d1, d2, d3⟩ := hbx.cells
  simp only at d0 d1 d2 d3
  have dy := (h.below hbA).ptr
  have HB := hidden_ (h.below hbA)
  clear h hbA hbx
  go_enter Try.func10, Try.ntmps10
  go_wp2
  go_ret
  obtain ⟨⟨a, hs⟩, hd, hu⟩ := HB.out
  exact ⟨rfl, s, L, ⟨⟨a, hs.mono (Nat.le_succ _)⟩, hd, hu⟩⟩

theorem act_call {B : Nat} {u w : World} {x mb b g y p g' : Nat} {s : Pl} {L : List It} {cap : Nat} (h : Bt B u x mb b g y p g' s L cap w) (hc : cap ≤ 800) {u0 : World} (hu0 : Below B u0 u) (hBu : u0.heap.size ≤ B) (o : OpV) (hok : OpOk u0 o) (h2 : o.W.n ≤ 2000) :
    Calls Try.prog 10 #[.pointer (some ⟨x, 0, none⟩), .pointer (some ⟨b, 0, none⟩), .pointer (some ⟨y, 0, none⟩), .agg #[.int .i64 o.k, .string o.t, .slice o.W.a o.W.n o.W.c, .int .i64 o.n]] w fun e w' => e = .returned (.bool true) ∧ ∃ s' L', Bt B u x mb b g y p g' s' L' (cap + 1) w' := by
  obtain ⟨ok, ot, ⟨wa, wn, wc⟩, zw, on⟩ := o
  have hsz : ot.size ≤ maxLen := hok.sz
  simp only
  by_cases n0 : ok = 0
  · subst n0
    exact act_put h hc hu0 hBu zw ot hsz wa wn wc on hok h2
  by_cases n1 : ok = 1
  · subst n1
    exact act_remove h hc ot hsz wa wn wc on
  by_cases n2 : ok = 2
  · subst n2
    exact act_pin h hc ot hsz wa wn wc on
  by_cases n3 : ok = 3
  · subst n3
    exact act_unpin h hc ot hsz wa wn wc on
  by_cases n4 : ok = 4
  · subst n4
    exact act_take h hc ot hsz wa wn wc on
  by_cases n5 : ok = 5
  · subst n5
    exact act_drop h hc ot hsz wa wn wc on
  by_cases n6 : ok = 6
  · subst n6
    exact act_reserve h hc ot hsz wa wn wc on
  by_cases n7 : ok = 7
  · subst n7
    exact act_yield h hc ot hsz wa wn wc on
  exact act_else h hc ok n0 n1 n2 n3 n4 n5 n6 n7 ot hsz wa wn wc on
end

/- ShelfDoes between its rounds, and what it reads of both shelves. -/
section
open Go.ChangeShapes Go.WideShapes Go.ChangeAt Go.RowKit
set_option linter.unusedVariables false
set_option linter.unusedSimpArgs false

theorem restN (x : Int) (n : Nat) (hn : 0 < n) : ∃ M : Nat, M < n ∧ (IntKind.u64.wrap x).tmod (n : Int) = (M : Int) ∧ IntKind.u64.wrap x % (n : Int) = (M : Int) := by
  have b : 0 ≤ IntKind.u64.wrap x := by rw [IntKind.wrap_u64]; omega
  generalize IntKind.u64.wrap x = U at *
  have h0 := Int.emod_nonneg U (show (n : Int) ≠ 0 by omega)
  have h1 := Int.emod_lt_of_pos U (show 0 < (n : Int) by omega)
  refine ⟨(U % (n : Int)).toNat, by omega, ?_, by omega⟩
  rw [Int.tmod_eq_emod_of_nonneg b]
  omega
theorem below_m (w : World) (m : Nat) : Below w.heap.size w (w.drewN m) := below_drew (Below.refl _ _) ⟨m, rfl⟩
theorem df_new {B : Nat} {w : World} {p g n : Nat} {r : Nat → Nat} (h : RefAt B w p g (newPl n) r) (hB : B ≤ w.heap.size) : Df B (w.alloc (.cells #[.pointer (some ⟨p, 0, none⟩), .slice none 0 0] 36)) w.heap.size p g (newPl n) [] := by
  have hb := below_new (Below.refl w.heap.size w) (.cells #[.pointer (some ⟨p, 0, none⟩), .slice none 0 0] 36)
  have e := heap_alloc_new w (.cells #[.pointer (some ⟨p, 0, none⟩), .slice none 0 0] 36)
  refine ⟨none, 0, [], r, ⟨⟨_, e, rfl⟩, hB, ?_, ?_, World.ownsRow_nil _ _ _ _, fun x hx => (by cases hx)⟩, h.below hb, rfl⟩
  · unfold World.cell?
    rw [show (⟨w.heap.size, 0, none⟩ : Addr).block = w.heap.size from rfl, e]
    rfl
  · unfold World.cell?
    rw [show (⟨w.heap.size, 1, none⟩ : Addr).block = w.heap.size from rfl, e]
    rfl
/-- between two rounds of the law -/
def Dz (B : Nat) (u : World) (x mb b g y p g' cap : Nat) (w : World) : Prop := (∃ v s L, Bt B v x mb b g y p g' s L cap w) ∧ Below B u w
/-- behind an act -/
def Dy (B : Nat) (u : World) (x mb b g y p g' : Nat) (s : Pl) (L : List It) (cap ob : Nat) (o : OpV) (w : World) : Prop := (∃ v, Bt B v x mb b g y p g' s L cap w) ∧ BoxO w ob o ∧ Below B u w
theorem kpt_self (B : Nat) (w : World) : Kpt B w w := ⟨Below.refl _ _, fun _ _ h => h⟩
theorem dz_new {B n : Nat} {u w : World} {x mb b g p g' : Nat} {r : Nat → Nat} (hs : Sf B w x mb b g none (newPl n) [] 0) (hr : RefAt B w p g' (newPl n) r) (hu : Below B u w) : Dz B u x mb b g w.heap.size p g' 0 (w.alloc (.cells #[.pointer (some ⟨p, 0, none⟩), .slice none 0 0] 36)) := by
  have hb := below_new (Below.refl w.heap.size w) (.cells #[.pointer (some ⟨p, 0, none⟩), .slice none 0 0] 36)
  exact ⟨⟨_, _, _, ⟨none, hs.below hb⟩, df_new hr hs.lt, kpt_self _ _⟩, hu.trans (hb.mono hs.lt)⟩
theorem Dz.step {B : Nat} {u : World} {x mb b g y p g' : Nat} {cap : Nat} {w : World} (h : Dz B u x mb b g y p g' cap w) (hc : cap ≤ 800) (hBu : u.heap.size ≤ B) (o : OpV) (hok : OpOk u o) (h2 : o.W.n ≤ 2000) {A : World} (hb : Below w.heap.size w A) {ob : Nat} (hx : BoxO A ob o) :
    Calls Try.prog 10 #[.pointer (some ⟨x, 0, none⟩), .pointer (some ⟨b, 0, none⟩), .pointer (some ⟨y, 0, none⟩), .agg #[.int .i64 o.k, .string o.t, .slice o.W.a o.W.n o.W.c, .int .i64 o.n]] A fun e w' => e = .returned (.bool true) ∧ ∃ s L, Dy B u x mb b g y p g' s L (cap + 1) ob o w' := by
  obtain ⟨⟨v, s, L, hB⟩, hu⟩ := h
  have hA := hB.below hb
  have huA : Below B u A := hu.trans (hb.mono (by obtain ⟨⟨a, hs⟩, _⟩ := hB; exact hs.lt))
  have hA' : Bt B A x mb b g y p g' s L cap A := ⟨hA.1, hA.2.1, kpt_self _ _⟩
  refine (act_call hA' hc huA hBu o hok h2).mono ?_
  rintro e w' ⟨rfl, s', L', h'⟩
  exact ⟨rfl, s', L', ⟨A, h'⟩, h'.2.2.2 _ _ hx, huA.trans h'.2.2.1⟩
theorem Dy.below {B : Nat} {u : World} {x mb b g y p g' : Nat} {s : Pl} {L : List It} {cap ob : Nat} {o : OpV} {w : World} (h : Dy B u x mb b g y p g' s L cap ob o w) {w' : World} (hb : Below w.heap.size w w') : Dy B u x mb b g y p g' s L cap ob o w' := by
  obtain ⟨⟨v, hB⟩, hx, hu⟩ := h
  exact ⟨⟨v, hB.below hb⟩, hx.below hb, hu.trans (hb.mono (by obtain ⟨⟨a, hs⟩, _⟩ := hB; exact hs.lt))⟩
theorem Dy.toZ {B : Nat} {u : World} {x mb b g y p g' : Nat} {s : Pl} {L : List It} {cap ob : Nat} {o : OpV} {w : World} (h : Dy B u x mb b g y p g' s L cap ob o w) : Dz B u x mb b g y p g' cap w := ⟨h.1.elim fun v k => ⟨v, s, L, k⟩, h.2.2⟩
theorem Dz.bel {B : Nat} {u : World} {x mb b g y p g' : Nat} {cap : Nat} {w : World} (h : Dz B u x mb b g y p g' cap w) : Below B u w := h.2
theorem Dz.grown {B : Nat} {u : World} {x mb b g y p g' : Nat} {cap : Nat} {w w' : World} (h : Dz B u x mb b g y p g' cap w) (hb : Below w.heap.size w w') : Below B u w' := h.2.trans (hb.mono (by obtain ⟨⟨_, _, _, ⟨a, hs⟩, _⟩, _⟩ := h; exact hs.lt))
theorem Dy.name {B : Nat} {u : World} {x mb b g y p g' : Nat} {s : Pl} {L : List It} {cap ob : Nat} {o : OpV} {w : World} (h : Dy B u x mb b g y p g' s L cap ob o w) : w.cell? ⟨ob, 1, none⟩ = some (.string o.t) := h.2.1.cells.2.1
theorem Dy.reads {B : Nat} {u : World} {x mb b g y p g' : Nat} {s : Pl} {L : List It} {cap ob : Nat} {o : OpV} {w : World} (h : Dy B u x mb b g y p g' s L cap ob o w) (hc : cap ≤ 800) (hn : o.t.size ≤ maxLen) : ∃ (E : Int) (Z : List Int), readE s L o.t = E ∧ (Calls Try.prog 11 #[.pointer (some ⟨x, 0, none⟩), .string o.t] w fun e w' => ∃ a' l' c', e = .returned (.tuple #[.slice a' l' c', .int .i64 E]) ∧ RowB 0 w' a' l' c' Z ∧ Below w.heap.size w w') ∧
    ∀ W, Below w.heap.size w W → Calls Try.prog 12 #[.pointer (some ⟨y, 0, none⟩), .string o.t] W fun e w' => ∃ a' l' c', e = .returned (.tuple #[.slice a' l' c', .int .i64 E]) ∧ RowB 0 w' a' l' c' Z ∧ Below W.heap.size W w' := by
  refine ⟨_, readV s L o.t, rfl, ?_, fun W hb => ?_⟩
  · obtain ⟨v, ⟨a, hs⟩, hd, hu⟩ := h.1
    refine (sf_read hs (by omega) o.t hn).mono ?_
    rintro e w' ⟨a', l', c', rfl, h4, h5⟩
    exact ⟨a', l', c', rfl, h4.mono (Nat.zero_le _), h5⟩
  · obtain ⟨v, ⟨a, hs⟩, hd, hu⟩ := (h.below hb).1
    refine (df_read hd hs.ok (by omega) o.t).mono ?_
    rintro e w' ⟨a', l', c', rfl, h4, h5⟩
    exact ⟨a', l', c', rfl, h4.mono (Nat.zero_le _), h5⟩
theorem Dy.few {B : Nat} {u : World} {x mb b g y p g' : Nat} {s : Pl} {L : List It} {cap ob : Nat} {o : OpV} {w : World} (h : Dy B u x mb b g y p g' s L cap ob o w) : (names L).length ≤ cap := by
  obtain ⟨v, ⟨a, hs⟩, hd, hu⟩ := h.1
  exact Nat.le_trans (names_len L) hs.ok.few
theorem Dy.x13 {W2 : World} {a1 a2 : Option Addr} {l1 c1 l2 c2 : Nat} {Z : List Int} (r1 : RowB 0 W2 a1 l1 c1 Z) (r2 : RowB 0 W2 a2 l2 c2 Z) : ∀ W, Below W2.heap.size W2 W → Calls Try.prog 13 #[.slice a1 l1 c1, .slice a2 l2 c2] W fun e w' => e = .returned (.bool true) ∧ Below W.heap.size W w' ∧ Below W2.heap.size W2 w' := fun W hb => by
  refine (same_bytes a1 l1 c1 Z a2 l2 c2 W (r1.below hb).reads (r2.below hb).reads).mono ?_
  rintro e w' ⟨rfl, m', rfl⟩
  exact ⟨rfl, below_m W m', below_then hb (below_m W m')⟩
theorem Dy.x12l {B : Nat} {u : World} {x mb b g y p g' : Nat} {s : Pl} {L : List It} {cap ob : Nat} {o : OpV} {W2 : World} (h : Dy B u x mb b g y p g' s L cap ob o W2) : ∀ W, Below W2.heap.size W2 W → (Instr.loadAt 9 (.pointer (some ⟨ob, 1, none⟩))).run Try.prog W = .ok (.string o.t) W := fun W hb => run_load9 (h.below hb).name
theorem Dy.x14 {B : Nat} {u : World} {x mb b g y p g' : Nat} {s : Pl} {L : List It} {cap ob : Nat} {o : OpV} {W2 : World} (h : Dy B u x mb b g y p g' s L cap ob o W2) (hc : cap ≤ 800) (hn : o.t.size ≤ maxLen) : ∀ W, Below W2.heap.size W2 W → Calls Try.prog 14 #[.pointer (some ⟨x, 0, none⟩), .string o.t] W fun e w' => e = .returned (.int .i64 (pinsZ L o.t)) ∧ Below W.heap.size W w' ∧ Below W2.heap.size W2 w' := fun W hb => by
  obtain ⟨v, ⟨a, hs⟩, hd, hu⟩ := (h.below hb).1
  refine (sf_pins hs o.t hn).mono ?_
  rintro e w' ⟨rfl, rfl⟩
  exact ⟨rfl, Below.refl _ _, hb⟩
theorem Dy.x15 {B : Nat} {u : World} {x mb b g y p g' : Nat} {s : Pl} {L : List It} {cap ob : Nat} {o : OpV} {W2 : World} (h : Dy B u x mb b g y p g' s L cap ob o W2) (hc : cap ≤ 800) : ∀ W, Below W2.heap.size W2 W → Calls Try.prog 15 #[.pointer (some ⟨y, 0, none⟩), .string o.t] W fun e w' => e = .returned (.int .i64 (pinsZ L o.t)) ∧ Below W.heap.size W w' ∧ Below W2.heap.size W2 w' := fun W hb => by
  obtain ⟨v, ⟨a, hs⟩, hd, hu⟩ := (h.below hb).1
  refine (df_pins hd hs.ok (by omega) o.t).mono ?_
  rintro e w' ⟨rfl, rfl⟩
  exact ⟨rfl, Below.refl _ _, hb⟩
theorem Dy.x17 {B : Nat} {u : World} {x mb b g y p g' : Nat} {s : Pl} {L : List It} {cap ob : Nat} {o : OpV} {W2 : World} (h : Dy B u x mb b g y p g' s L cap ob o W2) (hc : cap ≤ 800) : ∀ W, Below W2.heap.size W2 W → Calls Try.prog 17 #[.pointer (some ⟨x, 0, none⟩)] W fun e w' => ∃ ra rl rc, e = .returned (.slice ra rl rc) ∧ RowT 0 w' ra rl rc (names L) ∧ Below W.heap.size W w' ∧ Below W2.heap.size W2 w' := fun W hb => by
  obtain ⟨v, ⟨a, hs⟩, hd, hu⟩ := (h.below hb).1
  refine (sf_resident hs (by omega)).mono ?_
  rintro e w' ⟨⟨ra, rl, rc, rfl, h4⟩, h5⟩
  exact ⟨ra, rl, rc, rfl, h4.mono (Nat.zero_le _), h5, below_then hb h5⟩
theorem Dy.x18 {B : Nat} {u : World} {x mb b g y p g' : Nat} {s : Pl} {L : List It} {cap ob : Nat} {o : OpV} {W2 : World} (h : Dy B u x mb b g y p g' s L cap ob o W2) (hc : cap ≤ 800) : ∀ W, Below W2.heap.size W2 W → Calls Try.prog 18 #[.pointer (some ⟨y, 0, none⟩)] W fun e w' => ∃ ra rl rc, e = .returned (.slice ra rl rc) ∧ RowT 0 w' ra rl rc (names L) ∧ Below W.heap.size W w' ∧ Below W2.heap.size W2 w' := fun W hb => by
  obtain ⟨v, ⟨a, hs⟩, hd, hu⟩ := (h.below hb).1
  refine (df_resident hd hs.ok (by omega)).mono ?_
  rintro e w' ⟨⟨ra, rl, rc, rfl, h4⟩, h5⟩
  exact ⟨ra, rl, rc, rfl, h4.mono (Nat.zero_le _), h5, below_then hb h5⟩
theorem Dy.x16 {B : Nat} {u : World} {x mb b g y p g' : Nat} {s : Pl} {L : List It} {cap ob : Nat} {o : OpV} {W2 : World} (h : Dy B u x mb b g y p g' s L cap ob o W2) (hc : cap ≤ 800) : ∀ W, Below W2.heap.size W2 W → ∀ ra rl rc rb rm rd, RowT 0 W ra rl rc (names L) → RowT 0 W rb rm rd (names L) → Calls Try.prog 16 #[.slice ra rl rc, .slice rb rm rd] W fun e w' => e = .returned (.bool true) ∧ Below W.heap.size W w' ∧ Below W2.heap.size W2 w' := fun W hb ra rl rc rb rm rd h1 h2 => by
  have hf := h.few
  have hl := h1.len
  refine (sameT_call (c := rc) (c' := rd) h1.reads h2.reads (by omega)).mono ?_
  rintro e w' ⟨rfl, m', rfl⟩
  exact ⟨rfl, below_m W m', below_then hb (below_m W m')⟩
theorem Dy.x19 {B : Nat} {u : World} {x mb b g y p g' : Nat} {s : Pl} {L : List It} {cap ob : Nat} {o : OpV} {W2 : World} (h : Dy B u x mb b g y p g' s L cap ob o W2) (hc : cap ≤ 800) : ∀ W, Below W2.heap.size W2 W → Calls Try.prog 19 #[.pointer (some ⟨x, 0, none⟩)] W fun e w' => e = .returned (.int .i64 (roomZ s L)) ∧ Below W.heap.size W w' ∧ Below W2.heap.size W2 w' := fun W hb => by
  obtain ⟨v, ⟨a, hs⟩, hd, hu⟩ := (h.below hb).1
  refine (sf_room hs (by omega)).mono ?_
  rintro e w' ⟨rfl, h5⟩
  exact ⟨rfl, h5, below_then hb h5⟩
theorem Dy.x20 {B : Nat} {u : World} {x mb b g y p g' : Nat} {s : Pl} {L : List It} {cap ob : Nat} {o : OpV} {W2 : World} (h : Dy B u x mb b g y p g' s L cap ob o W2) (hc : cap ≤ 800) : ∀ W, Below W2.heap.size W2 W → Calls Try.prog 20 #[.pointer (some ⟨y, 0, none⟩)] W fun e w' => e = .returned (.int .i64 (roomZ s L)) ∧ Below W.heap.size W w' ∧ Below W2.heap.size W2 w' := fun W hb => by
  obtain ⟨v, ⟨a, hs⟩, hd, hu⟩ := (h.below hb).1
  refine (df_room hd hs.ok (by omega)).mono ?_
  rintro e w' ⟨rfl, m', rfl⟩
  exact ⟨rfl, below_m W m', below_then hb (below_m W m')⟩
theorem Dy.x21 {B : Nat} {u : World} {x mb b g y p g' : Nat} {s : Pl} {L : List It} {cap ob : Nat} {o : OpV} {W2 : World} (h : Dy B u x mb b g y p g' s L cap ob o W2) (hc : cap ≤ 800) : ∀ W, Below W2.heap.size W2 W → Calls Try.prog 21 #[.pointer (some ⟨b, 0, none⟩), .pointer (some ⟨p, 0, none⟩)] W fun e w' => e = .returned (.bool true) ∧ Below W.heap.size W w' ∧ Below W2.heap.size W2 w' := fun W hb => by
  obtain ⟨v, ⟨a, hs⟩, hd, hu⟩ := (h.below hb).1
  have hg := hs.ok.good
  have hp := hs.pool
  obtain ⟨_, _, _, r, _, hr, _⟩ := hd
  refine (samePools_call hp hr hg).mono ?_
  rintro e w' ⟨rfl, m', rfl⟩
  exact ⟨rfl, below_m W m', below_then hb (below_m W m')⟩
end

end Go.Proofs.Ytfggkkhehaafcaa
