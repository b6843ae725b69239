/- The document tells what is wrong with what is asked. -/
import Derived.Test.YtcpnakghndfdpaaRows
import Derived.Test.YtcpnakghndfdpaaView
import Derived.Test.YtcpnakghndfdpaaCfgs
import Derived.Test.YtcpnakghndfdpaaHeld
import Derived.Test.YtcpnakghndfdpaaKnFloats
import Derived.Test.YtcpnakghndfdpaaKnExact
import Derived.Test.YtcpnakghndfdpaaAskA
import Derived.Test.YtcpnakghndfdpaaAskD
import Derived.Test.YtcpnakghndfdpaaCfgRef
import Derived.WalkKit
import Derived.ProofKit
import Derived.OpenShut
import Derived.Below
import Derived.Deep.QuietTactic
import Derived.BigQuiet
import Derived.WalkLawsBesides
import Derived.Deep.RegionWith
import Derived.Laws.FloatArith
import Derived.Laws.Externs
import Derived.Laws.BitsAllLaws
namespace Go.Proofs.Ytcpnakghndfdpaa

set_option maxRecDepth 20000

open Go.ChangeShapes Go.WideShapes Go.ChangeAt Go.RowKit

set_option linter.unusedVariables false

set_option linter.unusedSimpArgs false

theorem kind_L {c : Cq} {q : Aq} (h : kindZ c q = true) (h4 : (q.k == 4) = false) : 1 ≤ q.L := by
  have k4 : ¬ q.k = 4 := by simpa using h4
  unfold kindZ endZ at h
  rw [if_neg k4] at h
  split at h
  · simp at h; exact h.2.1
  · split at h
    · simp at h; exact h.2.1
    · split at h
      · simp at h; exact h.1
      · cases h

set_option maxHeartbeats 4000000 in
theorem refCheck_call (c : Cq) (q : Aq) (zs : List Int) (w : World) (hr : Reads .i64 w q.a q.n zs) :
    Calls Try.prog 23 #[c.w, q.w] w fun e w' => e = .returned (.int .i64 (checkZ c q zs)) ∧ Below w.heap.size w w' := by
  have hb := below_new (below_new (Below.refl w.heap.size w) (.cells c.cs 31)) (.cells q.cs 36)
  have q0 : Blk 31 ((w.alloc (.cells c.cs 31)).alloc (.cells q.cs 36)) w.heap.size c.cs := (Blk.new 31 w _).kept (below_new (Below.refl _ _) _)
  have q1 : Blk 36 ((w.alloc (.cells c.cs 31)).alloc (.cells q.cs 36)) (w.heap.size + 1) q.cs := by simpa using Blk.new 36 (w.alloc (.cells c.cs 31)) q.cs
  obtain ⟨c0, c1, c2, c3, c4, c5, c6, c7⟩ := q0.cfg
  obtain ⟨a0, a1, a2, a3, a4, a5, a6, a7, a8⟩ := q1.ask
  have ko : ∀ W, Calls Try.prog 34 #[c.w] W fun e w' => e = .returned (.bool c.ok) ∧ Below W.heap.size W w' := refConfig_call c.d c.h c.l c.v c.u c.x c.t c.n
  have kp := fun W (h : Below w.heap.size w W) => refRight_call c q zs W (hr.below h)
  have e0 : checkZ c q zs = if c.ok && (promptZ c zs && kindZ c q) then if longZ q then 4 else 0 else 1 := rfl
  have hm := hr.max
  obtain ⟨bo, hbo⟩ : ∃ b, c.ok = b := ⟨_, rfl⟩
  obtain ⟨bp, hbp⟩ : ∃ b, (promptZ c zs && kindZ c q) = b := ⟨_, rfl⟩
  have hL : bp = true → (q.k == 4) = false → 1 ≤ q.L := fun h => by
    rw [← hbp, Bool.and_eq_true] at h
    exact kind_L h.2
  simp only [hbo, hbp] at ko kp e0
  clear hbo hbp
  have K := hidden_ e0
  clear e0
  have HL := hidden_ hL
  clear hL
  cases bo <;> cases bp
  iterate 3
    · go_enter Try.func23, Try.ntmps23
      go_wp2_with (first
        | (go_at_call 34; refine (ko _).mono ?_; rintro e W1 ⟨rfl, h⟩; replace q0 := q0.kept h; replace q1 := q1.kept h; replace hb := below_then hb h; clear h ko c0 c1 c2 c3 c4 c5 c6 c7 a0 a1 a2 a3 a4 a5 a6 a7 a8; obtain ⟨c0, c1, c2, c3, c4, c5, c6, c7⟩ := q0.cfg; obtain ⟨a0, a1, a2, a3, a4, a5, a6, a7, a8⟩ := q1.ask)
        | (go_at_call 35; refine (kp _ hb).mono ?_; rintro e W1 ⟨rfl, h⟩; replace q0 := q0.kept h; replace q1 := q1.kept h; replace hb := below_then hb h; clear h kp c0 c1 c2 c3 c4 c5 c6 c7 a0 a1 a2 a3 a4 a5 a6 a7 a8; obtain ⟨c0, c1, c2, c3, c4, c5, c6, c7⟩ := q0.cfg; obtain ⟨a0, a1, a2, a3, a4, a5, a6, a7, a8⟩ := q1.ask))
      go_ret
      exact ⟨by rw [K.out]; rfl, hb⟩
  have k4 : ∀ b, (q.k == 4) = b → longZ q = if b then decide (24 < (q.n : Int)) else decide (24 - (q.n : Int) < q.L) := fun b h => by
    subst h
    unfold longZ
    by_cases e : q.k = 4 <;> simp [e]
  obtain ⟨b4, hb4⟩ : ∃ b, (q.k == 4) = b := ⟨_, rfl⟩
  have hb4' : (q.k != 4) = !b4 := by rw [← hb4]; rfl
  have K4 := hidden_ (k4 b4 hb4)
  clear k4
  have bad : 24 < (q.n : Int) → b4 = false → ¬ 24 - (q.n : Int) < q.L → False := fun h1 h2 h3 => by
    have := HL.out rfl (hb4.trans h2)
    omega
  by_cases n1 : 24 < (q.n : Int) <;> cases b4 <;> by_cases l1 : 24 - (q.n : Int) < q.L <;>
  first | exact (bad n1 rfl l1).elim | (
    clear bad
    go_enter Try.func23, Try.ntmps23
    go_wp2_with (first
      | (go_at_call 34; refine (ko _).mono ?_; rintro e W1 ⟨rfl, h⟩; replace q0 := q0.kept h; replace q1 := q1.kept h; replace hb := below_then hb h; clear h ko c0 c1 c2 c3 c4 c5 c6 c7 a0 a1 a2 a3 a4 a5 a6 a7 a8; obtain ⟨c0, c1, c2, c3, c4, c5, c6, c7⟩ := q0.cfg; obtain ⟨a0, a1, a2, a3, a4, a5, a6, a7, a8⟩ := q1.ask)
      | (go_at_call 35; refine (kp _ hb).mono ?_; rintro e W1 ⟨rfl, h⟩; replace q0 := q0.kept h; replace q1 := q1.kept h; replace hb := below_then hb h; clear h kp c0 c1 c2 c3 c4 c5 c6 c7 a0 a1 a2 a3 a4 a5 a6 a7 a8; obtain ⟨c0, c1, c2, c3, c4, c5, c6, c7⟩ := q0.cfg; obtain ⟨a0, a1, a2, a3, a4, a5, a6, a7, a8⟩ := q1.ask))
    go_ret
    exact ⟨by rw [K.out, K4.out]; simp [n1, l1], hb⟩)

end Go.Proofs.Ytcpnakghndfdpaa
