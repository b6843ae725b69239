/- Facts, with one of them wrong. -/
import Derived.Test.YtcpnakghndfdpaaRows
import Derived.Test.YtcpnakghndfdpaaView
import Derived.Test.YtcpnakghndfdpaaCfgs
import Derived.Test.YtcpnakghndfdpaaSteps
import Derived.Test.YtcpnakghndfdpaaHeld
import Derived.Test.YtcpnakghndfdpaaAdF
import Derived.WalkKit
import Derived.ProofKit
import Derived.OpenShut
import Derived.Below
import Derived.WalkLawsBesides
import Derived.Deep.QuietTactic
import Derived.BigQuiet
namespace Go.Proofs.Ytcpnakghndfdpaa
set_option maxRecDepth 20000
open Go.ChangeShapes Go.WideShapes Go.ChangeAt Go.RowKit
set_option linter.unusedVariables false
set_option linter.unusedSimpArgs false

/-- facts with one of them wrong -/
def worseF (f : Fq) (n : Int) : Fq :=
  if n = 0 then ⟨false, f.u, f.m, f.d, f.a, f.k, f.q, f.n, f.r⟩ else if n = 1 then ⟨f.t, true, f.m, f.d, f.a, f.k, f.q, f.n, f.r⟩ else if n = 2 then ⟨f.t, f.u, false, f.d, f.a, f.k, f.q, f.n, f.r⟩ else if n = 3 then ⟨f.t, f.u, f.m, f.d, false, f.k, f.q, f.n, f.r⟩ else if n = 4 then ⟨f.t, f.u, f.m, true, f.a, f.k, f.q, f.n, f.r⟩ else if n = 5 then ⟨f.t, f.u, f.m, f.d, f.a, 4, f.q, f.n, f.r⟩ else if n = 6 then ⟨f.t, f.u, f.m, f.d, f.a, f.k, 16, f.n, f.r⟩ else ⟨f.t, f.u, f.m, f.d, f.a, f.k, f.q, f.n, 1⟩

set_option maxHeartbeats 8000000 in
theorem worse_call (f : Fq) (n : Int) (w : World) : Calls Try.prog 17 #[f.w, .int .i64 n] w fun e w' => e = .returned (worseF f n).w ∧ Below w.heap.size w w' := by
  have fin : ∀ g : Fq, Below w.heap.size w ((w.alloc (.cells g.cs 24)).alloc (.cells g.cs 24)) := fun g => below_new (below_new (Below.refl w.heap.size w) (.cells g.cs 24)) (.cells g.cs 24)
  have cel : ∀ g : Fq, Blk 24 ((w.alloc (.cells g.cs 24)).alloc (.cells g.cs 24)) (w.heap.size + 1) g.cs := fun g => by simpa using Blk.new 24 (w.alloc (.cells g.cs 24)) g.cs
  by_cases h0 : n = 0
  · subst h0
    have hb := fin ⟨false, f.u, f.m, f.d, f.a, f.k, f.q, f.n, f.r⟩
    have hq := hidden_ (cel ⟨false, f.u, f.m, f.d, f.a, f.k, f.q, f.n, f.r⟩).facts
    clear fin cel
    go_enter Try.func17, Try.ntmps17
    go_wp2
    obtain ⟨a0, a1, a2, a3, a4, a5, a6, a7, a8⟩ := hq.out
    refine bodyPost_ret (v := (worseF f 0).w) ?_ rfl ⟨rfl, hb⟩
    simp [worseF, results, Try.results17, go_sem, a0, a1, a2, a3, a4, a5, a6, a7, a8]
  by_cases h1 : n = 1
  · subst h1
    have hb := fin ⟨f.t, true, f.m, f.d, f.a, f.k, f.q, f.n, f.r⟩
    have hq := hidden_ (cel ⟨f.t, true, f.m, f.d, f.a, f.k, f.q, f.n, f.r⟩).facts
    clear fin cel
    go_enter Try.func17, Try.ntmps17
    go_wp2
    obtain ⟨a0, a1, a2, a3, a4, a5, a6, a7, a8⟩ := hq.out
    refine bodyPost_ret (v := (worseF f 1).w) ?_ rfl ⟨rfl, hb⟩
    simp [worseF, results, Try.results17, go_sem, a0, a1, a2, a3, a4, a5, a6, a7, a8]
  by_cases h2 : n = 2
  · subst h2
    have hb := fin ⟨f.t, f.u, false, f.d, f.a, f.k, f.q, f.n, f.r⟩
    have hq := hidden_ (cel ⟨f.t, f.u, false, f.d, f.a, f.k, f.q, f.n, f.r⟩).facts
    clear fin cel
    go_enter Try.func17, Try.ntmps17
    go_wp2
    obtain ⟨a0, a1, a2, a3, a4, a5, a6, a7, a8⟩ := hq.out
    refine bodyPost_ret (v := (worseF f 2).w) ?_ rfl ⟨rfl, hb⟩
    simp [worseF, results, Try.results17, go_sem, a0, a1, a2, a3, a4, a5, a6, a7, a8]
  by_cases h3 : n = 3
  · subst h3
    have hb := fin ⟨f.t, f.u, f.m, f.d, false, f.k, f.q, f.n, f.r⟩
    have hq := hidden_ (cel ⟨f.t, f.u, f.m, f.d, false, f.k, f.q, f.n, f.r⟩).facts
    clear fin cel
    go_enter Try.func17, Try.ntmps17
    go_wp2
    obtain ⟨a0, a1, a2, a3, a4, a5, a6, a7, a8⟩ := hq.out
    refine bodyPost_ret (v := (worseF f 3).w) ?_ rfl ⟨rfl, hb⟩
    simp [worseF, results, Try.results17, go_sem, a0, a1, a2, a3, a4, a5, a6, a7, a8]
  by_cases h4 : n = 4
  · subst h4
    have hb := fin ⟨f.t, f.u, f.m, true, f.a, f.k, f.q, f.n, f.r⟩
    have hq := hidden_ (cel ⟨f.t, f.u, f.m, true, f.a, f.k, f.q, f.n, f.r⟩).facts
    clear fin cel
    go_enter Try.func17, Try.ntmps17
    go_wp2
    obtain ⟨a0, a1, a2, a3, a4, a5, a6, a7, a8⟩ := hq.out
    refine bodyPost_ret (v := (worseF f 4).w) ?_ rfl ⟨rfl, hb⟩
    simp [worseF, results, Try.results17, go_sem, a0, a1, a2, a3, a4, a5, a6, a7, a8]
  by_cases h5 : n = 5
  · subst h5
    have hb := fin ⟨f.t, f.u, f.m, f.d, f.a, 4, f.q, f.n, f.r⟩
    have hq := hidden_ (cel ⟨f.t, f.u, f.m, f.d, f.a, 4, f.q, f.n, f.r⟩).facts
    clear fin cel
    go_enter Try.func17, Try.ntmps17
    go_wp2
    obtain ⟨a0, a1, a2, a3, a4, a5, a6, a7, a8⟩ := hq.out
    refine bodyPost_ret (v := (worseF f 5).w) ?_ rfl ⟨rfl, hb⟩
    simp [worseF, results, Try.results17, go_sem, a0, a1, a2, a3, a4, a5, a6, a7, a8]
  by_cases h6 : n = 6
  · subst h6
    have hb := fin ⟨f.t, f.u, f.m, f.d, f.a, f.k, 16, f.n, f.r⟩
    have hq := hidden_ (cel ⟨f.t, f.u, f.m, f.d, f.a, f.k, 16, f.n, f.r⟩).facts
    clear fin cel
    go_enter Try.func17, Try.ntmps17
    go_wp2
    obtain ⟨a0, a1, a2, a3, a4, a5, a6, a7, a8⟩ := hq.out
    refine bodyPost_ret (v := (worseF f 6).w) ?_ rfl ⟨rfl, hb⟩
    simp [worseF, results, Try.results17, go_sem, a0, a1, a2, a3, a4, a5, a6, a7, a8]
  have hb := fin ⟨f.t, f.u, f.m, f.d, f.a, f.k, f.q, f.n, 1⟩
  have hq := hidden_ (cel ⟨f.t, f.u, f.m, f.d, f.a, f.k, f.q, f.n, 1⟩).facts
  clear fin cel
  have e : worseF f n = ⟨f.t, f.u, f.m, f.d, f.a, f.k, f.q, f.n, 1⟩ := by unfold worseF; rw [if_neg h0, if_neg h1, if_neg h2, if_neg h3, if_neg h4, if_neg h5, if_neg h6]
  rw [e]
  go_enter Try.func17, Try.ntmps17
  go_wp2
  obtain ⟨a0, a1, a2, a3, a4, a5, a6, a7, a8⟩ := hq.out
  refine bodyPost_ret (v := Fq.w ⟨f.t, f.u, f.m, f.d, f.a, f.k, f.q, f.n, 1⟩) ?_ rfl ⟨rfl, hb⟩
  simp [results, Try.results17, go_sem, a0, a1, a2, a3, a4, a5, a6, a7, a8]

end Go.Proofs.Ytcpnakghndfdpaa
