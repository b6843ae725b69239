/- What is known of a request, and what becomes of it. -/
import Derived.Test.YtcpnakghndfdpaaRows
import Derived.Test.YtcpnakghndfdpaaView
import Derived.Test.YtcpnakghndfdpaaCfgs
import Derived.Test.YtcpnakghndfdpaaSteps
import Derived.Test.YtcpnakghndfdpaaHeld
import Derived.WalkKit
import Derived.ProofKit
import Derived.OpenShut
import Derived.Below
import Derived.WalkLawsBesides
import Derived.Deep.QuietTactic
import Derived.BigQuiet
namespace Go.Proofs.Ytcpnakghndfdpaa
set_option maxRecDepth 20000
open Go.ChangeShapes Go.WideShapes Go.ChangeAt Go.RowKit
set_option linter.unusedVariables false
set_option linter.unusedSimpArgs false

/-- what is known of a request -/
structure Fq where
  t : Bool
  u : Bool
  m : Bool
  d : Bool
  a : Bool
  k : Int
  q : Int
  n : Int
  r : Int
abbrev Fq.cs (f : Fq) : Array Value := #[.bool f.t, .bool f.u, .bool f.m, .bool f.d, .bool f.a, .int .i64 f.k, .int .i64 f.q, .int .i64 f.n, .int .i64 f.r]
abbrev Fq.w (f : Fq) : Value := .agg f.cs
/-- what becomes of it -/
def decideZ (f : Fq) : Int := if (!f.t || f.u) = true then 1 else if (!f.m || !f.a) = true then 2 else if f.d = true then 8 else if f.k ≠ 0 then f.k else if 16 ≤ f.q then 5 else if f.r < f.n then 6 else 0
theorem Blk.facts {t : TypeId} {w : World} {b : Nat} {f : Fq} (h : Blk t w b f.cs) : w.cell? ⟨b, 0, none⟩ = some (.bool f.t) ∧ w.cell? ⟨b, 1, none⟩ = some (.bool f.u) ∧ w.cell? ⟨b, 2, none⟩ = some (.bool f.m) ∧ w.cell? ⟨b, 3, none⟩ = some (.bool f.d) ∧ w.cell? ⟨b, 4, none⟩ = some (.bool f.a) ∧ w.cell? ⟨b, 5, none⟩ = some (.int .i64 f.k) ∧ w.cell? ⟨b, 6, none⟩ = some (.int .i64 f.q) ∧ w.cell? ⟨b, 7, none⟩ = some (.int .i64 f.n) ∧ w.cell? ⟨b, 8, none⟩ = some (.int .i64 f.r) :=
  ⟨h.cell 0 rfl, h.cell 1 rfl, h.cell 2 rfl, h.cell 3 rfl, h.cell 4 rfl, h.cell 5 rfl, h.cell 6 rfl, h.cell 7 rfl, h.cell 8 rfl⟩

set_option maxHeartbeats 4000000 in
theorem decide_call (f : Fq) (w : World) : Calls Try.prog 9 #[f.w] w fun e w' => e = .returned (.int .i64 (decideZ f)) ∧ Below w.heap.size w w' := by
  have hb := below_new (Below.refl w.heap.size w) (.cells f.cs 26)
  obtain ⟨t, u, m, d, a, k, q, n, r⟩ := f
  cases t
  · go_enter Try.func9, Try.ntmps9
    go_wp2
    go_ret
    exact ⟨rfl, hb⟩
  cases u
  case true =>
    go_enter Try.func9, Try.ntmps9
    go_wp2
    go_ret
    exact ⟨rfl, hb⟩
  cases m
  · go_enter Try.func9, Try.ntmps9
    go_wp2
    go_ret
    exact ⟨rfl, hb⟩
  cases a
  · go_enter Try.func9, Try.ntmps9
    go_wp2
    go_ret
    exact ⟨rfl, hb⟩
  cases d
  case true =>
    go_enter Try.func9, Try.ntmps9
    go_wp2
    go_ret
    exact ⟨rfl, hb⟩
  by_cases hk : k = 0
  · subst hk
    by_cases hq : 16 ≤ q
    · go_enter Try.func9, Try.ntmps9
      go_wp2
      go_ret
      exact ⟨by simp [decideZ, hq], hb⟩
    · by_cases hn : r < n
      · go_enter Try.func9, Try.ntmps9
        go_wp2
        go_ret
        exact ⟨by have h1 : ¬ 16 ≤ q := by omega
                  simp only [decideZ]; rw [if_neg (by decide), if_neg (by decide), if_neg (by decide), if_neg (by decide), if_neg h1, if_pos hn]; rfl, hb⟩
      · go_enter Try.func9, Try.ntmps9
        go_wp2
        go_ret
        exact ⟨by have h1 : ¬ 16 ≤ q := by omega
                  have h2 : ¬ r < n := by omega
                  simp only [decideZ]; rw [if_neg (by decide), if_neg (by decide), if_neg (by decide), if_neg (by decide), if_neg h1, if_neg h2]; rfl, hb⟩
  · go_enter Try.func9, Try.ntmps9
    go_wp2
    go_ret
    exact ⟨by simp [decideZ, hk], hb⟩

set_option maxHeartbeats 4000000 in
theorem refDecide_call (f : Fq) (w : World) : Calls Try.prog 11 #[f.w] w fun e w' => e = .returned (.int .i64 (decideZ f)) ∧ Below w.heap.size w w' := by
  have hb := below_new (Below.refl w.heap.size w) (.cells f.cs 24)
  obtain ⟨t, u, m, d, a, k, q, n, r⟩ := f
  cases t
  · go_enter Try.func11, Try.ntmps11
    go_wp2
    go_ret
    exact ⟨rfl, hb⟩
  cases u
  case true =>
    go_enter Try.func11, Try.ntmps11
    go_wp2
    go_ret
    exact ⟨rfl, hb⟩
  cases m
  · go_enter Try.func11, Try.ntmps11
    go_wp2
    go_ret
    exact ⟨rfl, hb⟩
  cases a
  · go_enter Try.func11, Try.ntmps11
    go_wp2
    go_ret
    exact ⟨rfl, hb⟩
  cases d
  case true =>
    go_enter Try.func11, Try.ntmps11
    go_wp2
    go_ret
    exact ⟨rfl, hb⟩
  by_cases hk : k = 0
  · subst hk
    by_cases hq : 16 ≤ q
    · go_enter Try.func11, Try.ntmps11
      go_wp2
      go_ret
      exact ⟨by simp [decideZ, hq], hb⟩
    · by_cases hn : r < n
      · go_enter Try.func11, Try.ntmps11
        go_wp2
        go_ret
        exact ⟨by have h1 : ¬ 16 ≤ q := by omega
                  simp only [decideZ]; rw [if_neg (by decide), if_neg (by decide), if_neg (by decide), if_neg (by decide), if_neg h1, if_pos hn]; rfl, hb⟩
      · go_enter Try.func11, Try.ntmps11
        go_wp2
        go_ret
        exact ⟨by have h1 : ¬ 16 ≤ q := by omega
                  have h2 : ¬ r < n := by omega
                  simp only [decideZ]; rw [if_neg (by decide), if_neg (by decide), if_neg (by decide), if_neg (by decide), if_neg h1, if_neg h2]; rfl, hb⟩
  · go_enter Try.func11, Try.ntmps11
    go_wp2
    go_ret
    exact ⟨by simp [decideZ, hk], hb⟩

theorem to_call (f : Fq) (w : World) : Calls Try.prog 10 #[f.w] w fun e w' => e = .returned f.w ∧ Below w.heap.size w w' := by
  have hb := below_new (below_new (Below.refl w.heap.size w) (.cells f.cs 24)) (.cells f.cs 26)
  have q : Blk 26 ((w.alloc (.cells f.cs 24)).alloc (.cells f.cs 26)) (w.heap.size + 1) f.cs := by simpa using Blk.new 26 (w.alloc (.cells f.cs 24)) f.cs
  have hq := hidden_ q.facts
  clear q
  go_enter Try.func10, Try.ntmps10
  go_wp2
  obtain ⟨a0, a1, a2, a3, a4, a5, a6, a7, a8⟩ := hq.out
  refine bodyPost_ret (v := f.w) ?_ rfl ⟨rfl, hb⟩
  simp [results, Try.results10, go_sem, a0, a1, a2, a3, a4, a5, a6, a7, a8]

/-- facts of which all is well -/
abbrev wellF : Fq := ⟨true, false, true, false, true, 0, 0, 3, 3⟩
theorem well_call (w : World) : Calls Try.prog 29 #[] w fun e w' => e = .returned wellF.w ∧ Below w.heap.size w w' := by
  have hb := below_new (Below.refl w.heap.size w) (.cells wellF.cs 26)
  have hq := hidden_ (Blk.new 26 w wellF.cs).facts
  go_enter Try.func29, Try.ntmps29
  go_wp2
  obtain ⟨a0, a1, a2, a3, a4, a5, a6, a7, a8⟩ := hq.out
  refine bodyPost_ret (v := wellF.w) ?_ rfl ⟨rfl, hb⟩
  simp [results, Try.results29, go_sem, a0, a1, a2, a3, a4, a5, a6, a7, a8]

end Go.Proofs.Ytcpnakghndfdpaa
