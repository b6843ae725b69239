/- Need of the program: its contract. -/
import Derived.Test.YtcpnakghndfdpaaRows
import Derived.Test.YtcpnakghndfdpaaView
import Derived.Test.YtcpnakghndfdpaaCfg
import Derived.Test.YtcpnakghndfdpaaCfgs
import Derived.Test.YtcpnakghndfdpaaAskA
import Derived.Test.YtcpnakghndfdpaaAskC
import Derived.Test.YtcpnakghndfdpaaAskE
import Derived.Test.YtcpnakghndfdpaaCkSizes
import Derived.Test.YtcpnakghndfdpaaMdSmall
import Derived.Test.YtcpnakghndfdpaaPlain
import Derived.Test.YtcpnakghndfdpaaNeeds
import Derived.Test.YtcpnakghndfdpaaAdP
import Derived.Test.YtcpnakghndfdpaaAdZ
import Derived.WalkKit
import Derived.ProofKit
import Derived.OpenShut
import Derived.Below
import Derived.WalkLawsBesides
import Derived.Deep.QuietTactic
import Derived.BigQuiet
namespace Go.Proofs.Ytcpnakghndfdpaa
set_option maxRecDepth 20000
open Go.ChangeShapes Go.WideShapes Go.ChangeAt Go.RowKit
set_option linter.unusedVariables false
set_option linter.unusedSimpArgs false

set_option maxHeartbeats 4000000 in
theorem want_call (c : Cq) (q : Aq) (zs : List Int) (k : Int) (k0 : -9223372036854775808 ≤ k) (k1 : k ≤ 9223372036854775807) (w : World) (hr : Reads .i64 w q.a q.n zs) :
    Calls Try.prog 12 #[c.w, q.w, .int .i64 k] w fun e w' => e = .returned (.int .i64 (wantZ c q zs k)) ∧ Below w.heap.size w w' := by
  have hb := below_new (below_new (Below.refl w.heap.size w) (.cells c.cs 31)) (.cells q.cs 36)
  have q0 : Blk 31 ((w.alloc (.cells c.cs 31)).alloc (.cells q.cs 36)) w.heap.size c.cs := (Blk.new 31 w _).kept (below_new (Below.refl _ _) _)
  have q1 : Blk 36 ((w.alloc (.cells c.cs 31)).alloc (.cells q.cs 36)) (w.heap.size + 1) q.cs := by simpa using Blk.new 36 (w.alloc (.cells c.cs 31)) q.cs
  have kc := fun W (h : Below w.heap.size w W) => check_call c q zs W (hr.below h)
  have kn := need_call k k1 k0
  have kw : ∀ W, Calls Try.prog 21 #[c.w] W fun e w' => e = .returned (.int .i64 c.wide) ∧ Below W.heap.size W w' := md_width c.d c.h c.l c.v c.u c.x c.t c.n
  unfold wantZ
  by_cases hz : checkZ c q zs = 0
  · obtain ⟨n24, hL, hB⟩ := check_zero hz
    have ⟨d0, d1⟩ := wide_of hz
    have ⟨r0, r1⟩ := rows_bounds n24 hL
    have ⟨s0, s1⟩ := seqs_bounds hz
    have kr := fun W => rows_call q W n24 hL
    have kp := pages_call (rowsZ q) c.wide (by omega) d1 r0 (by omega)
    have ⟨p0, p1⟩ := pages_bounds (r := rowsZ q) (d := c.wide) (by omega) d1 r0 (by omega)
    have ⟨e0, e1⟩ := need_bounds k1
    rw [if_pos hz]
    simp only [hz] at kc
    clear hz n24 hL hB
    obtain ⟨D, eD⟩ : ∃ D, c.wide = D := ⟨_, rfl⟩
    obtain ⟨R, eR⟩ : ∃ R, rowsZ q = R := ⟨_, rfl⟩
    obtain ⟨S, eS⟩ : ∃ S, seqsZ q = S := ⟨_, rfl⟩
    rw [eD] at kw kp p0 p1 d0 d1 ⊢
    simp only [eR, eS] at kr kp p0 p1 r0 r1 s0 s1 ⊢
    obtain ⟨P, eP⟩ : ∃ P, pagesZ R D = P := ⟨_, rfl⟩
    obtain ⟨E, eE⟩ : ∃ E, needZ k = E := ⟨_, rfl⟩
    rw [eP] at kp p0 p1 ⊢
    rw [eE] at kn e0 e1 ⊢
    clear eD eR eS eP eE
    have ⟨m0, m1⟩ := mul_bounds (show 0 ≤ S by omega) s1 p0 p1
    obtain ⟨M, eM⟩ : ∃ M, S * P = M := ⟨_, rfl⟩
    rw [eM] at m0 m1 ⊢
    obtain ⟨c0, c1, c2, c3, c4, c5, c6, c7⟩ := q0.cfg
    obtain ⟨a0, a1, a2, a3, a4, a5, a6, a7, a8⟩ := q1.ask
    clear hr
    by_cases h1 : 1 < S
    · rw [if_pos h1]
      go_enter Try.func12, Try.ntmps12
      go_wp2_with (first
        | (go_at_call 18; refine (kc _ hb).mono ?_; rintro e W1 ⟨rfl, h⟩; replace q0 := q0.kept h; replace q1 := q1.kept h; replace hb := below_then hb h; clear h kc c0 c1 c2 c3 c4 c5 c6 c7 a0 a1 a2 a3 a4 a5 a6 a7 a8; obtain ⟨c0, c1, c2, c3, c4, c5, c6, c7⟩ := q0.cfg; obtain ⟨a0, a1, a2, a3, a4, a5, a6, a7, a8⟩ := q1.ask)
        | (go_at_call 19; refine (kr _).mono ?_; rintro e W1 ⟨rfl, h⟩; replace q0 := q0.kept h; replace q1 := q1.kept h; replace hb := below_then hb h; clear h kr c0 c1 c2 c3 c4 c5 c6 c7 a0 a1 a2 a3 a4 a5 a6 a7 a8; obtain ⟨c0, c1, c2, c3, c4, c5, c6, c7⟩ := q0.cfg)
        | (go_at_call 21; refine (kw _).mono ?_; rintro e W1 ⟨rfl, h⟩; replace hb := below_then hb h; clear h kw)
        | (go_at_call 20; refine (kp _).mono ?_; rintro e W1 ⟨rfl, rfl⟩; clear kp)
        | (go_at_call 22; refine (kn _).mono ?_; rintro e W1 ⟨rfl, rfl⟩; clear kn))
      go_ret
      exact ⟨rfl, hb⟩
    · rw [if_neg h1]
      go_enter Try.func12, Try.ntmps12
      go_wp2_with (first
        | (go_at_call 18; refine (kc _ hb).mono ?_; rintro e W1 ⟨rfl, h⟩; replace q0 := q0.kept h; replace q1 := q1.kept h; replace hb := below_then hb h; clear h kc c0 c1 c2 c3 c4 c5 c6 c7 a0 a1 a2 a3 a4 a5 a6 a7 a8; obtain ⟨c0, c1, c2, c3, c4, c5, c6, c7⟩ := q0.cfg; obtain ⟨a0, a1, a2, a3, a4, a5, a6, a7, a8⟩ := q1.ask)
        | (go_at_call 19; refine (kr _).mono ?_; rintro e W1 ⟨rfl, h⟩; replace q0 := q0.kept h; replace q1 := q1.kept h; replace hb := below_then hb h; clear h kr c0 c1 c2 c3 c4 c5 c6 c7 a0 a1 a2 a3 a4 a5 a6 a7 a8; obtain ⟨c0, c1, c2, c3, c4, c5, c6, c7⟩ := q0.cfg)
        | (go_at_call 21; refine (kw _).mono ?_; rintro e W1 ⟨rfl, h⟩; replace hb := below_then hb h; clear h kw)
        | (go_at_call 20; refine (kp _).mono ?_; rintro e W1 ⟨rfl, rfl⟩; clear kp)
        | (go_at_call 22; refine (kn _).mono ?_; rintro e W1 ⟨rfl, rfl⟩; clear kn))
      go_ret
      exact ⟨by simp, hb⟩
  · rw [if_neg hz]
    obtain ⟨E, eE⟩ : ∃ E, checkZ c q zs = E := ⟨_, rfl⟩
    rw [eE] at hz
    simp only [eE] at kc
    clear eE kn kw
    obtain ⟨c0, c1, c2, c3, c4, c5, c6, c7⟩ := q0.cfg
    obtain ⟨a0, a1, a2, a3, a4, a5, a6, a7, a8⟩ := q1.ask
    go_enter Try.func12, Try.ntmps12
    go_wp2_with (go_at_call 18; refine (kc _ hb).mono ?_; rintro e W1 ⟨rfl, h⟩; replace hb := below_then hb h; clear h kc)
    go_ret
    exact ⟨rfl, hb⟩

end Go.Proofs.Ytcpnakghndfdpaa
