/- For every configuration and everything that may be asked (its prompt of any length), the program's Check answers what the document's does; of what is right, Rows and Cost are the document's too; the arguments stay as they were. -/
import Derived.Test.YtbkjhfmehemgpaaRows
import Derived.Test.YtbkjhfmehemgpaaView
import Derived.Test.YtbkjhfmehemgpaaOwn
import Derived.Test.YtbkjhfmehemgpaaCfg
import Derived.Test.YtbkjhfmehemgpaaCfgs
import Derived.Test.YtbkjhfmehemgpaaHeld
import Derived.Test.YtbkjhfmehemgpaaCfgRef
import Derived.Test.YtbkjhfmehemgpaaOpenCfg
import Derived.Test.YtbkjhfmehemgpaaSteps
import Derived.Test.YtbkjhfmehemgpaaRefTop
import Derived.Test.YtbkjhfmehemgpaaKnFixes
import Derived.Test.YtbkjhfmehemgpaaKnCalls
import Derived.Test.YtbkjhfmehemgpaaDrBits
import Derived.Test.YtbkjhfmehemgpaaSetN
import Derived.Test.YtbkjhfmehemgpaaAskA
import Derived.Test.YtbkjhfmehemgpaaAskB
import Derived.Test.YtbkjhfmehemgpaaAskC
import Derived.Test.YtbkjhfmehemgpaaAskD
import Derived.Test.YtbkjhfmehemgpaaAskE
import Derived.Test.YtbkjhfmehemgpaaAskF
import Derived.Test.YtbkjhfmehemgpaaAskO
import Derived.Test.YtbkjhfmehemgpaaAskP
import Derived.WalkKit
import Derived.ProofKit
import Derived.OpenShut
import Derived.ChangeOld
import Derived.Below
import Derived.WalkLawsBesides
import Derived.ChangeMaps5
import Derived.Deep.RegionHeld3
import Derived.Deep.QuietTactic
import Derived.BigQuiet
namespace Go.Proofs.Ytbkjhfmehemgpaa.genChecks
open Go.ChangeShapes Go.WideShapes Go.ChangeAt Go.RowKit
set_option linter.unusedVariables false
set_option linter.unusedSimpArgs false

theorem own : ownKnob Try.prog.godebug = none := by kernel_rfl
theorem laidOut : laidOutB Try.prog = true := by kernel_rfl

theorem checkZ_with (c : Cq) (q : Aq) (a : Option Addr) (m : Nat) (zs : List Int) : checkZ c (q.with a m) zs = checkZ c q zs := rfl
theorem rowsZ_with (q : Aq) (a : Option Addr) (m : Nat) : rowsZ (q.with a m) = rowsZ q := rfl
theorem seqsZ_with (q : Aq) (a : Option Addr) (m : Nat) : seqsZ (q.with a m) = seqsZ q := rfl
theorem check_zero {c : Cq} {q : Aq} {zs : List Int} (h : checkZ c q zs = 0) : (q.n : Int) ≤ 24 ∧ (0 ≤ q.L ∧ q.L ≤ 24 ∨ q.k = 4) ∧ (q.k = 3 → 0 ≤ q.B ∧ q.B ≤ 4) := by
  unfold checkZ at h
  split at h
  · rename_i h1
    split at h
    · cases h
    · rename_i h2
      simp only [Bool.and_eq_true] at h1
      have hk := h1.2.2
      have hl : longZ q = false := by simpa using h2
      unfold longZ at hl
      by_cases k4 : q.k = 4
      · rw [if_pos k4] at hl
        exact ⟨by simpa using hl, .inr k4, fun h3 => by omega⟩
      · rw [if_neg k4] at hl
        have hL := kind_L hk (by simpa using k4)
        have hl' : q.L ≤ 24 - (q.n : Int) := by simpa using hl
        refine ⟨by omega, .inl (by omega), fun h3 => ?_⟩
        unfold kindZ at hk
        rw [if_neg k4, if_pos h3] at hk
        simp [triesZ] at hk
        omega
  · cases h

set_option maxHeartbeats 4000000 in
set_option maxRecDepth 20000 in
theorem walk (cd0 ch0 cl0 cv0 cu0 cx0 ct0 cn0 : Int) (Q1 : Aq) (z1 : List Int) (w : World)  (w1 : AkAt w Q1 z1) :
    Calls Try.prog 3 #[.agg #[.int .i64 cd0, .int .i64 ch0, .int .i64 cl0, .int .i64 cv0, .int .i64 cu0, .int .i64 cx0, .int .i64 ct0, .int .i64 cn0], Q1.w] w fun e w' => e = .returned (.bool true) ∧ Below w.heap.size w w' := by
  change Calls Try.prog 3 #[Cq.w ⟨cd0, ch0, cl0, cv0, cu0, cx0, ct0, cn0⟩, Q1.w] w _
  obtain ⟨c, hc⟩ : ∃ c : Cq, (⟨cd0, ch0, cl0, cv0, cu0, cx0, ct0, cn0⟩ : Cq) = c := ⟨_, rfl⟩
  rw [hc]
  clear hc
  have hb := below_new (below_new (Below.refl w.heap.size w) (.cells c.cs 23)) (.cells Q1.cs 28)
  by_cases n1 : 1000 < (Q1.n : Int)
  · go_enter Try.func3, Try.ntmps3
    go_wp2
    go_ret
    exact ⟨rfl, hb⟩
  have q0 : Blk 23 ((w.alloc (.cells c.cs 23)).alloc (.cells Q1.cs 28)) w.heap.size c.cs := (Blk.new 23 w _).kept (below_new (Below.refl _ _) _)
  have q1 : Blk 28 ((w.alloc (.cells c.cs 23)).alloc (.cells Q1.cs 28)) (w.heap.size + 1) Q1.cs := by simpa using Blk.new 28 (w.alloc (.cells c.cs 23)) Q1.cs
  obtain ⟨W0, eW⟩ : ∃ W0, (w.alloc (.cells c.cs 23)).alloc (.cells Q1.cs 28) = W0 := ⟨_, rfl⟩
  rw [eW] at hb q0 q1
  have ko := fun W (h : Below w.heap.size w W) => ownAsk_call Q1 z1 W ⟨w1.ws, w1.wL, w1.t.below h, w1.te, w1.tl⟩ (by omega)
  have kc := fun W a m (h : Reads .i64 W a Q1.n z1) => check_call c (Q1.with a m) z1 W h
  have kd := fun W (h : Below w.heap.size w W) => refCheck_call c Q1 z1 W (w1.t.below h)
  have kr := fun W a m h1 h2 => rows_call (Q1.with a m) W h1 h2
  have ks := fun W h1 h2 => refRows_call Q1 W h1 h2
  have kt := fun W a m h1 h2 h3 => cost_call (Q1.with a m) W h1 h2 h3
  have ku := fun W h1 h2 h3 => refCost_call Q1 W h1 h2 h3
  simp only [checkZ_with, rowsZ_with, seqsZ_with] at kc kr kt
  have K0 := @check_zero c Q1 z1
  obtain ⟨E, hE⟩ : ∃ E, checkZ c Q1 z1 = E := ⟨_, rfl⟩
  obtain ⟨R, hR⟩ : ∃ R, rowsZ Q1 = R := ⟨_, rfl⟩
  obtain ⟨S, hS⟩ : ∃ S, seqsZ Q1 = S := ⟨_, rfl⟩
  simp only [hE, hR, hS] at kc kd kr ks kt ku K0
  clear hE hR hS
  obtain ⟨c0, c1, c2, c3, c4, c5, c6, c7⟩ := q0.cfg
  obtain ⟨a0, a1, a2, a3, a4, a5, a6, a7, a8⟩ := q1.ask
  obtain ⟨P, hP⟩ : ∃ P : Int, R * S = P := ⟨_, rfl⟩
  simp only [hP] at kt ku
  clear hP
  have EE : (E == E) = true := by simp
  have RR : (R == R) = true := by simp
  have SS : (S == S) = true := by simp
  have PP : (P == P) = true := by simp
  have NE : (E != E) = false := by simp
  have EW := hidden_ eW
  by_cases e0 : E = 0
  · obtain ⟨x1, x2, x3⟩ := K0 e0
    subst e0
    clear K0
    have kr' := fun W a m => kr W a m x1 x2
    have ks' := fun W => ks W x1 x2
    have kt' := fun W a m => kt W a m x1 x2 x3
    have ku' := fun W => ku W x1 x2 x3
    clear kr ks kt ku x1 x2 x3 eW
    go_enter Try.func3, Try.ntmps3
    go_wp2
    rw [EW.out]
    clear EW
    replace q0 : Blk 23 W0.drew w.heap.size c.cs := q0
    replace q1 : Blk 28 W0.drew (w.heap.size + 1) Q1.cs := q1
    replace hb : Below w.heap.size w W0.drew := below_drew hb ⟨1, rfl⟩
    go_region_held3 (fun W => W.cell? ⟨w.heap.size, 0, none⟩ = some (.int .i64 c.d) ∧ W.cell? ⟨w.heap.size, 1, none⟩ = some (.int .i64 c.h) ∧ W.cell? ⟨w.heap.size, 2, none⟩ = some (.int .i64 c.l) ∧ W.cell? ⟨w.heap.size, 3, none⟩ = some (.int .i64 c.v) ∧ W.cell? ⟨w.heap.size, 4, none⟩ = some (.int .i64 c.u) ∧ W.cell? ⟨w.heap.size, 5, none⟩ = some (.int .i64 c.x) ∧ W.cell? ⟨w.heap.size, 6, none⟩ = some (.int .i64 c.t) ∧ W.cell? ⟨w.heap.size, 7, none⟩ = some (.int .i64 c.n) ∧ W.cell? ⟨w.heap.size + 1, 0, none⟩ = some (.int .i64 Q1.k) ∧ W.cell? ⟨w.heap.size + 1, 1, none⟩ = some (.slice Q1.a Q1.n Q1.c) ∧ W.cell? ⟨w.heap.size + 1, 2, none⟩ = some (.int .i64 Q1.L) ∧ W.cell? ⟨w.heap.size + 1, 3, none⟩ = some (.int .i64 Q1.S) ∧ W.cell? ⟨w.heap.size + 1, 4, none⟩ = some (.int .u64 Q1.sd) ∧ W.cell? ⟨w.heap.size + 1, 5, none⟩ = some (.int .i64 Q1.T) ∧ W.cell? ⟨w.heap.size + 1, 6, none⟩ = some (.float .f64 Q1.H) ∧ W.cell? ⟨w.heap.size + 1, 7, none⟩ = some (.int .i64 Q1.B) ∧ W.cell? ⟨w.heap.size + 1, 8, none⟩ = some (.int .i64 Q1.E)) (exact ⟨c0, c1, c2, c3, c4, c5, c6, c7, a0, a1, a2, a3, a4, a5, a6, a7, a8⟩) (first
      | (go_at_call 5; refine (ko _ hb).mono ?_; rintro e W1 ⟨⟨p', m', rfl, h'⟩, h⟩; have ht := h'.t; clear h'; replace q0 := q0.kept h; replace q1 := q1.kept h; replace hb := below_then hb h; clear h c0 c1 c2 c3 c4 c5 c6 c7 a0 a1 a2 a3 a4 a5 a6 a7 a8; obtain ⟨c0, c1, c2, c3, c4, c5, c6, c7⟩ := q0.cfg; obtain ⟨a0, a1, a2, a3, a4, a5, a6, a7, a8⟩ := q1.ask)
      | (go_at_call 4; refine (kc _ _ _ ht).mono ?_; rintro e W1 ⟨rfl, h⟩; replace q0 := q0.kept h; replace q1 := q1.kept h; replace hb := below_then hb h; clear h c0 c1 c2 c3 c4 c5 c6 c7 a0 a1 a2 a3 a4 a5 a6 a7 a8; obtain ⟨c0, c1, c2, c3, c4, c5, c6, c7⟩ := q0.cfg; obtain ⟨a0, a1, a2, a3, a4, a5, a6, a7, a8⟩ := q1.ask))
    clear ht
    go_wp2_with (first
      | (go_at_call 6; refine (kd _ hb).mono ?_; rintro e W1 ⟨rfl, h⟩; replace q0 := q0.kept h; replace q1 := q1.kept h; replace hb := below_then hb h; clear h c0 c1 c2 c3 c4 c5 c6 c7 a0 a1 a2 a3 a4 a5 a6 a7 a8; obtain ⟨c0, c1, c2, c3, c4, c5, c6, c7⟩ := q0.cfg; obtain ⟨a0, a1, a2, a3, a4, a5, a6, a7, a8⟩ := q1.ask)
      | (go_at_call 5; refine (ko _ hb).mono ?_; rintro e W1 ⟨⟨p', m', rfl, h'⟩, h⟩; have ht := h'.t; clear h'; replace q0 := q0.kept h; replace q1 := q1.kept h; replace hb := below_then hb h; clear h c0 c1 c2 c3 c4 c5 c6 c7 a0 a1 a2 a3 a4 a5 a6 a7 a8; obtain ⟨c0, c1, c2, c3, c4, c5, c6, c7⟩ := q0.cfg; obtain ⟨a0, a1, a2, a3, a4, a5, a6, a7, a8⟩ := q1.ask)
      | (go_at_call 7; refine (kr' _ _ _).mono ?_; rintro e W1 ⟨rfl, h⟩; replace q0 := q0.kept h; replace q1 := q1.kept h; replace hb := below_then hb h; clear h c0 c1 c2 c3 c4 c5 c6 c7 a0 a1 a2 a3 a4 a5 a6 a7 a8; obtain ⟨c0, c1, c2, c3, c4, c5, c6, c7⟩ := q0.cfg; obtain ⟨a0, a1, a2, a3, a4, a5, a6, a7, a8⟩ := q1.ask)
      | (go_at_call 8; refine (ks' _).mono ?_; rintro e W1 ⟨rfl, h⟩; replace q0 := q0.kept h; replace q1 := q1.kept h; replace hb := below_then hb h; clear h c0 c1 c2 c3 c4 c5 c6 c7 a0 a1 a2 a3 a4 a5 a6 a7 a8; obtain ⟨c0, c1, c2, c3, c4, c5, c6, c7⟩ := q0.cfg; obtain ⟨a0, a1, a2, a3, a4, a5, a6, a7, a8⟩ := q1.ask))
    replace q0 := show Blk 23 _ w.heap.size c.cs from q0.kept (below_drew (Below.refl _ _) ⟨1, rfl⟩)
    replace q1 := show Blk 28 _ (w.heap.size + 1) Q1.cs from q1.kept (below_drew (Below.refl _ _) ⟨1, rfl⟩)
    replace hb := below_drew hb ⟨1, rfl⟩
    go_region_held3 (fun W => W.cell? ⟨w.heap.size, 0, none⟩ = some (.int .i64 c.d) ∧ W.cell? ⟨w.heap.size, 1, none⟩ = some (.int .i64 c.h) ∧ W.cell? ⟨w.heap.size, 2, none⟩ = some (.int .i64 c.l) ∧ W.cell? ⟨w.heap.size, 3, none⟩ = some (.int .i64 c.v) ∧ W.cell? ⟨w.heap.size, 4, none⟩ = some (.int .i64 c.u) ∧ W.cell? ⟨w.heap.size, 5, none⟩ = some (.int .i64 c.x) ∧ W.cell? ⟨w.heap.size, 6, none⟩ = some (.int .i64 c.t) ∧ W.cell? ⟨w.heap.size, 7, none⟩ = some (.int .i64 c.n) ∧ W.cell? ⟨w.heap.size + 1, 0, none⟩ = some (.int .i64 Q1.k) ∧ W.cell? ⟨w.heap.size + 1, 1, none⟩ = some (.slice Q1.a Q1.n Q1.c) ∧ W.cell? ⟨w.heap.size + 1, 2, none⟩ = some (.int .i64 Q1.L) ∧ W.cell? ⟨w.heap.size + 1, 3, none⟩ = some (.int .i64 Q1.S) ∧ W.cell? ⟨w.heap.size + 1, 4, none⟩ = some (.int .u64 Q1.sd) ∧ W.cell? ⟨w.heap.size + 1, 5, none⟩ = some (.int .i64 Q1.T) ∧ W.cell? ⟨w.heap.size + 1, 6, none⟩ = some (.float .f64 Q1.H) ∧ W.cell? ⟨w.heap.size + 1, 7, none⟩ = some (.int .i64 Q1.B) ∧ W.cell? ⟨w.heap.size + 1, 8, none⟩ = some (.int .i64 Q1.E)) (exact ⟨c0, c1, c2, c3, c4, c5, c6, c7, a0, a1, a2, a3, a4, a5, a6, a7, a8⟩) (first
      | (go_at_call 5; refine (ko _ hb).mono ?_; rintro e W1 ⟨⟨p', m', rfl, h'⟩, h⟩; have ht := h'.t; clear h'; replace q0 := q0.kept h; replace q1 := q1.kept h; replace hb := below_then hb h; clear h c0 c1 c2 c3 c4 c5 c6 c7 a0 a1 a2 a3 a4 a5 a6 a7 a8; obtain ⟨c0, c1, c2, c3, c4, c5, c6, c7⟩ := q0.cfg; obtain ⟨a0, a1, a2, a3, a4, a5, a6, a7, a8⟩ := q1.ask)
      | (go_at_call 9; refine (kt' _ _ _).mono ?_; rintro e W1 ⟨rfl, h⟩; replace q0 := q0.kept h; replace q1 := q1.kept h; replace hb := below_then hb h; clear h c0 c1 c2 c3 c4 c5 c6 c7 a0 a1 a2 a3 a4 a5 a6 a7 a8; obtain ⟨c0, c1, c2, c3, c4, c5, c6, c7⟩ := q0.cfg; obtain ⟨a0, a1, a2, a3, a4, a5, a6, a7, a8⟩ := q1.ask)
      | (go_at_call 10; refine (ku' _).mono ?_; rintro e W1 ⟨rfl, h⟩; replace q0 := q0.kept h; replace q1 := q1.kept h; replace hb := below_then hb h; clear h c0 c1 c2 c3 c4 c5 c6 c7 a0 a1 a2 a3 a4 a5 a6 a7 a8; obtain ⟨c0, c1, c2, c3, c4, c5, c6, c7⟩ := q0.cfg; obtain ⟨a0, a1, a2, a3, a4, a5, a6, a7, a8⟩ := q1.ask))
    all_goals
      go_wp2
      go_ret
      exact ⟨rfl, hb⟩
  · have e0' : (E != 0) = true := by simpa using e0
    clear K0 e0 kr ks kt ku eW
    go_enter Try.func3, Try.ntmps3
    go_wp2
    rw [EW.out]
    clear EW
    replace q0 : Blk 23 W0.drew w.heap.size c.cs := q0
    replace q1 : Blk 28 W0.drew (w.heap.size + 1) Q1.cs := q1
    replace hb : Below w.heap.size w W0.drew := below_drew hb ⟨1, rfl⟩
    go_region_held3 (fun W => W.cell? ⟨w.heap.size, 0, none⟩ = some (.int .i64 c.d) ∧ W.cell? ⟨w.heap.size, 1, none⟩ = some (.int .i64 c.h) ∧ W.cell? ⟨w.heap.size, 2, none⟩ = some (.int .i64 c.l) ∧ W.cell? ⟨w.heap.size, 3, none⟩ = some (.int .i64 c.v) ∧ W.cell? ⟨w.heap.size, 4, none⟩ = some (.int .i64 c.u) ∧ W.cell? ⟨w.heap.size, 5, none⟩ = some (.int .i64 c.x) ∧ W.cell? ⟨w.heap.size, 6, none⟩ = some (.int .i64 c.t) ∧ W.cell? ⟨w.heap.size, 7, none⟩ = some (.int .i64 c.n) ∧ W.cell? ⟨w.heap.size + 1, 0, none⟩ = some (.int .i64 Q1.k) ∧ W.cell? ⟨w.heap.size + 1, 1, none⟩ = some (.slice Q1.a Q1.n Q1.c) ∧ W.cell? ⟨w.heap.size + 1, 2, none⟩ = some (.int .i64 Q1.L) ∧ W.cell? ⟨w.heap.size + 1, 3, none⟩ = some (.int .i64 Q1.S) ∧ W.cell? ⟨w.heap.size + 1, 4, none⟩ = some (.int .u64 Q1.sd) ∧ W.cell? ⟨w.heap.size + 1, 5, none⟩ = some (.int .i64 Q1.T) ∧ W.cell? ⟨w.heap.size + 1, 6, none⟩ = some (.float .f64 Q1.H) ∧ W.cell? ⟨w.heap.size + 1, 7, none⟩ = some (.int .i64 Q1.B) ∧ W.cell? ⟨w.heap.size + 1, 8, none⟩ = some (.int .i64 Q1.E)) (exact ⟨c0, c1, c2, c3, c4, c5, c6, c7, a0, a1, a2, a3, a4, a5, a6, a7, a8⟩) (first
      | (go_at_call 5; refine (ko _ hb).mono ?_; rintro e W1 ⟨⟨p', m', rfl, h'⟩, h⟩; have ht := h'.t; clear h'; replace q0 := q0.kept h; replace q1 := q1.kept h; replace hb := below_then hb h; clear h c0 c1 c2 c3 c4 c5 c6 c7 a0 a1 a2 a3 a4 a5 a6 a7 a8; obtain ⟨c0, c1, c2, c3, c4, c5, c6, c7⟩ := q0.cfg; obtain ⟨a0, a1, a2, a3, a4, a5, a6, a7, a8⟩ := q1.ask)
      | (go_at_call 4; refine (kc _ _ _ ht).mono ?_; rintro e W1 ⟨rfl, h⟩; replace q0 := q0.kept h; replace q1 := q1.kept h; replace hb := below_then hb h; clear h c0 c1 c2 c3 c4 c5 c6 c7 a0 a1 a2 a3 a4 a5 a6 a7 a8; obtain ⟨c0, c1, c2, c3, c4, c5, c6, c7⟩ := q0.cfg; obtain ⟨a0, a1, a2, a3, a4, a5, a6, a7, a8⟩ := q1.ask))
    go_wp2_with ((go_at_call 6; refine (kd _ hb).mono ?_; rintro e W1 ⟨rfl, h⟩; replace q0 := q0.kept h; replace q1 := q1.kept h; replace hb := below_then hb h; clear h c0 c1 c2 c3 c4 c5 c6 c7 a0 a1 a2 a3 a4 a5 a6 a7 a8; obtain ⟨c0, c1, c2, c3, c4, c5, c6, c7⟩ := q0.cfg; obtain ⟨a0, a1, a2, a3, a4, a5, a6, a7, a8⟩ := q1.ask))
    go_ret
    exact ⟨rfl, hb⟩

theorem contract (H : Type) (enc : TypeId × Value → H) (W : World) (base : Nat) (args : Array Value) (ds gs : List (DataW H)) (before : List MemPlace)
    (hval0 : ∀ (j : Nat) t v, Try.f3.params[j]? = some t → args[j]? = some v → Value.okWide Try.prog W .any base t v)
    (hW : DataW.Whole enc Try.prog Try.f3.params.toList Rows.genChecksSpec.vars false W args.toList ds gs before) :
    Calls Try.prog 3 args W fun e W' => ∃ v, e = .returned v ∧ Rows.genChecksSpec.post enc Try.prog Try.f3 false true false false W args v W' := by
  have hval : ∀ (j : Nat) t v, Try.f3.params[j]? = some t → args[j]? = some v → Value.okWide Try.prog W .any base t v := hval0
  have hW' := hW
  obtain ⟨p, q, hA0, hV, rfl, hfz, hnd⟩ := hW
  have hA : DataW.TrodAll enc Try.prog W 0 (fun _ => true) true Try.f3.params.toList args.toList ds p := hA0
  rw [Try.params3] at hA hval
  obtain ⟨v0, vs0, d0, ds0, p0, q0, hargs, rfl, rfl, h0, r0⟩ := trodAll_cons hA
  obtain ⟨v1, vs1, d1, ds1, p1, q1, rfl, rfl, rfl, h1, r1⟩ := trodAll_cons r0
  obtain ⟨rfl, rfl, rfl⟩ := trodAll_nil r1
  obtain rfl : args = #[v0, v1] := by cases args; simp_all
  obtain ⟨rfl, rfl⟩ := trodVars_none hV
  have k0 := h0
  have lt0 : ∀ x ∈ p0, x.block < W.heap.size := by obtain ⟨m, hm⟩ := k0; exact DataW.trod_lt m _ _ _ hm
  obtain ⟨cd0, ch0, cl0, cv0, cu0, cx0, ct0, cn0, rfl⟩ := open_cfg (hval 0 23 v0 rfl rfl) h0
  have k1 := h1
  have lt1 : ∀ x ∈ p1, x.block < W.heap.size := by obtain ⟨m, hm⟩ := k1; exact DataW.trod_lt m _ _ _ hm
  obtain ⟨Q1, z1, rfl, w1⟩ := open_ask (hval 1 28 v1 rfl rfl) h1
  clear hA0 hval0
  refine (walk cd0 ch0 cl0 cv0 cu0 cx0 ct0 cn0 Q1 z1 W  w1).mono fun e W' ⟨he, bel⟩ => ?_
  subst he
  exact ⟨_, rfl, _, _, _, [], _, [], hW', trodAll_mk1 (shut_bool Try.underlying4 _), (trodAll_cons_mk (Below.trod laidOut (by kernel_rfl) (of_decide_eq_true (by kernel_rfl)) k0 bel lt0) (trodAll_cons_mk (Below.trod laidOut (by kernel_rfl) (of_decide_eq_true (by kernel_rfl)) k1 bel lt1) trodAll_mk0)), rfl, bel.frame _, fun h => by cases h⟩

set_option maxRecDepth 100000 in
theorem lifted (os : Os) (started : os.Started) (H : Type) (enc : TypeId × Value → H) :
    ReturnsInHanded {} Try.checked os 3 .any (Rows.genChecksSpec.pre6 enc Try.prog Try.f3 Rows.genChecksRow.domain false) (Rows.genChecksSpec.post enc Try.prog Try.f3 false true false false) := by
  refine returnsInHanded_of_change (C := Try.checked) own started (by kernel_rfl) Try.func3
    (ChangeSpec.witness6 (enc := enc) (C := Try.checked) false ⟨#[], #[.agg #[.int .i64 0, .int .i64 0, .int .i64 0, .int .i64 0, .int .i64 0, .int .i64 0, .int .i64 0, .int .i64 0], .agg #[.int .i64 0, .slice none 0 0, .int .i64 0, .int .i64 0, .int .u64 0, .int .i64 0, .float .f64 0, .int .i64 0, .int .i64 0]], []⟩ 8 (by kernel_rfl) (by kernel_rfl) (by kernel_rfl) (by kernel_rfl)) ?_
  intro W base args ds gs before hval hW _ _
  exact contract H enc W base args ds gs before hval hW

theorem over : Rows.genChecksRow.holds Try.pinned (OpenSpec.ofChange Rows.genChecksSpec) :=
  OpenClaim.holds_of_wide 3 Try.f3 rfl rfl rfl rfl rfl rfl rfl ⟨rfl, rfl, rfl, rfl, rfl⟩ rfl rfl rfl rfl rfl (by kernel_rfl) Try.func3 (by kernel_rfl)
    (of_decide_eq_true (by kernel_rfl)) (by unfold Func.isWrapper; first | (rw [if_pos (by decide +kernel)]; kernel_rfl) | (rw [if_neg (by decide +kernel)]; exact ⟨rfl, rfl⟩))
    (fun os started H enc _ => lifted os started H enc)

theorem proved : Rows.GenChecksSaid :=
  over
#print axioms proved
end Go.Proofs.Ytbkjhfmehemgpaa.genChecks
