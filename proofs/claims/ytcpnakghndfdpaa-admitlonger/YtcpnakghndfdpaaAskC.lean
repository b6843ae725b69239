/- What is wrong with what is asked, and how many rows it takes. -/
import Derived.Test.YtcpnakghndfdpaaRows
import Derived.Test.YtcpnakghndfdpaaView
import Derived.Test.YtcpnakghndfdpaaCfgs
import Derived.Test.YtcpnakghndfdpaaKnExact
import Derived.Test.YtcpnakghndfdpaaAskA
import Derived.Test.YtcpnakghndfdpaaAskB
import Derived.WalkKit
import Derived.ProofKit
import Derived.OpenShut
import Derived.Below
import Derived.Deep.QuietTactic
import Derived.BigQuiet
import Derived.WalkLawsBesides
import Derived.Deep.RegionWith
import Derived.Laws.FloatArith
import Derived.Laws.Externs
import Derived.Laws.BitsAllLaws
namespace Go.Proofs.Ytcpnakghndfdpaa

set_option maxRecDepth 20000

open Go.ChangeShapes Go.WideShapes Go.ChangeAt Go.RowKit

set_option linter.unusedVariables false

set_option linter.unusedSimpArgs false

set_option maxHeartbeats 4000000 in
theorem check_call (c : Cq) (q : Aq) (zs : List Int) (w : World) (hr : Reads .i64 w q.a q.n zs) :
    Calls Try.prog 18 #[c.w, q.w] w fun e w' => e = .returned (.int .i64 (checkZ c q zs)) ∧ Below w.heap.size w w' := by
  have hb := below_new (below_new (Below.refl w.heap.size w) (.cells c.cs 31)) (.cells q.cs 36)
  have q0 : Blk 31 ((w.alloc (.cells c.cs 31)).alloc (.cells q.cs 36)) w.heap.size c.cs := (Blk.new 31 w _).kept (below_new (Below.refl _ _) _)
  have q1 : Blk 36 ((w.alloc (.cells c.cs 31)).alloc (.cells q.cs 36)) (w.heap.size + 1) q.cs := by simpa using Blk.new 36 (w.alloc (.cells c.cs 31)) q.cs
  obtain ⟨c0, c1, c2, c3, c4, c5, c6, c7⟩ := q0.cfg
  obtain ⟨a0, a1, a2, a3, a4, a5, a6, a7, a8⟩ := q1.ask
  have ko : ∀ W, Calls Try.prog 30 #[c.w] W fun e w' => e = .returned (.bool c.ok) ∧ Below W.heap.size W w' := config_call c.d c.h c.l c.v c.u c.x c.t c.n
  have kp := fun W (h : Below w.heap.size w W) => prompt_call c q.a q.n q.c zs W (hr.below h)
  have kk := kind_call c q
  have kl := fun W => long_call q W (by have := hr.max; omega)
  unfold checkZ
  obtain ⟨bo, hbo⟩ : ∃ b, c.ok = b := ⟨_, rfl⟩
  obtain ⟨bp, hbp⟩ : ∃ b, promptZ c zs = b := ⟨_, rfl⟩
  obtain ⟨bk, hbk⟩ : ∃ b, kindZ c q = b := ⟨_, rfl⟩
  obtain ⟨bl, hbl⟩ : ∃ b, longZ q = b := ⟨_, rfl⟩
  simp only [hbo, hbp, hbk, hbl] at ko kp kk kl ⊢
  clear hbo hbp hbk hbl
  cases bo <;> cases bp <;> cases bk <;> cases bl <;>
  · go_enter Try.func18, Try.ntmps18
    go_wp2_with (first
      | (go_at_call 30; refine (ko _).mono ?_; rintro e W1 ⟨rfl, h⟩; replace q0 := q0.kept h; replace q1 := q1.kept h; replace hb := below_then hb h; clear h ko c0 c1 c2 c3 c4 c5 c6 c7 a0 a1 a2 a3 a4 a5 a6 a7 a8; obtain ⟨c0, c1, c2, c3, c4, c5, c6, c7⟩ := q0.cfg; obtain ⟨a0, a1, a2, a3, a4, a5, a6, a7, a8⟩ := q1.ask)
      | (go_at_call 31; refine (kp _ hb).mono ?_; rintro e W1 ⟨rfl, h⟩; replace q0 := q0.kept h; replace q1 := q1.kept h; replace hb := below_then hb h; clear h kp c0 c1 c2 c3 c4 c5 c6 c7 a0 a1 a2 a3 a4 a5 a6 a7 a8; obtain ⟨c0, c1, c2, c3, c4, c5, c6, c7⟩ := q0.cfg; obtain ⟨a0, a1, a2, a3, a4, a5, a6, a7, a8⟩ := q1.ask)
      | (go_at_call 32; refine (kk _).mono ?_; rintro e W1 ⟨rfl, h⟩; replace q0 := q0.kept h; replace q1 := q1.kept h; replace hb := below_then hb h; clear h kk c0 c1 c2 c3 c4 c5 c6 c7 a0 a1 a2 a3 a4 a5 a6 a7 a8; obtain ⟨c0, c1, c2, c3, c4, c5, c6, c7⟩ := q0.cfg; obtain ⟨a0, a1, a2, a3, a4, a5, a6, a7, a8⟩ := q1.ask)
      | (go_at_call 33; refine (kl _).mono ?_; rintro e W1 ⟨rfl, h⟩; replace hb := below_then hb h; clear h kl))
    go_ret
    exact ⟨rfl, hb⟩

/-- how many rows, in how many sequences -/
def rowsZ (q : Aq) : Int := if q.k = 4 then (q.n : Int) else (q.n : Int) + q.L

def seqsZ (q : Aq) : Int := if q.k = 3 then q.B else 1

theorem rows_call (q : Aq) (w : World) (hn : (q.n : Int) ≤ 24) (hL : 0 ≤ q.L ∧ q.L ≤ 24 ∨ q.k = 4) :
    Calls Try.prog 19 #[q.w] w fun e w' => e = .returned (.tuple #[.int .i64 (rowsZ q), .int .i64 (seqsZ q)]) ∧ Below w.heap.size w w' := by
  have hb := below_new (Below.refl w.heap.size w) (.cells q.cs 36)
  by_cases h1 : q.k = 4 <;> by_cases h2 : q.k = 3 <;>
  first | omega | (
    go_enter Try.func19, Try.ntmps19
    go_wp2
    go_ret2
    exact ⟨by simp [rowsZ, seqsZ, h1, h2], hb⟩)

theorem refRows_call (q : Aq) (w : World) (hn : (q.n : Int) ≤ 24) (hL : 0 ≤ q.L ∧ q.L ≤ 24 ∨ q.k = 4) :
    Calls Try.prog 24 #[q.w] w fun e w' => e = .returned (.tuple #[.int .i64 (rowsZ q), .int .i64 (seqsZ q)]) ∧ Below w.heap.size w w' := by
  have hb := below_new (Below.refl w.heap.size w) (.cells q.cs 36)
  by_cases h1 : q.k = 4 <;> by_cases h2 : q.k = 3 <;>
  first | omega | (
    go_enter Try.func24, Try.ntmps24
    go_wp2
    try go_quiet (fail)
    try go_wp2
    go_ret2
    exact ⟨by simp [rowsZ, seqsZ, h1, h2], (by first | exact hb | exact below_drew hb ⟨_, rfl⟩)⟩)

end Go.Proofs.Ytcpnakghndfdpaa
