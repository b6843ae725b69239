/- What is asked, as plain data: the program's parts of Check. -/
import Derived.Test.YtcpnakghndfdpaaRows
import Derived.Test.YtcpnakghndfdpaaView
import Derived.Test.YtcpnakghndfdpaaCfgs
import Derived.Test.YtcpnakghndfdpaaKnFloats
import Derived.Test.YtcpnakghndfdpaaKnExact
import Derived.Test.YtcpnakghndfdpaaKnFixes
import Derived.Test.YtcpnakghndfdpaaDrBits
import Derived.WalkKit
import Derived.ProofKit
import Derived.OpenShut
import Derived.Below
import Derived.Deep.QuietTactic
import Derived.BigQuiet
import Derived.WalkLawsBesides
import Derived.Deep.RegionWith
import Derived.Laws.FloatArith
import Derived.Laws.Externs
import Derived.Laws.BitsAllLaws
namespace Go.Proofs.Ytcpnakghndfdpaa

set_option maxRecDepth 20000

open Go.ChangeShapes Go.WideShapes Go.ChangeAt Go.RowKit

set_option linter.unusedVariables false

set_option linter.unusedSimpArgs false

/-- a configuration -/
structure Cq where
  d : Int
  h : Int
  l : Int
  v : Int
  u : Int
  x : Int
  t : Int
  n : Int

/-- what is asked -/
structure Aq where
  k : Int
  a : Option Addr
  n : Nat
  c : Nat
  L : Int
  S : Int
  sd : Int
  T : Int
  H : Nat
  B : Int
  E : Int

abbrev Cq.cs (q : Cq) : Array Value := #[.int .i64 q.d, .int .i64 q.h, .int .i64 q.l, .int .i64 q.v, .int .i64 q.u, .int .i64 q.x, .int .i64 q.t, .int .i64 q.n]

abbrev Aq.cs (q : Aq) : Array Value := #[.int .i64 q.k, .slice q.a q.n q.c, .int .i64 q.L, .int .i64 q.S, .int .u64 q.sd, .int .i64 q.T, .float .f64 q.H, .int .i64 q.B, .int .i64 q.E]

abbrev Cq.w (q : Cq) : Value := .agg q.cs

abbrev Aq.w (q : Aq) : Value := .agg q.cs

def endZ (c : Cq) (q : Aq) : Bool := decide (1 ≤ q.L) && decide (q.S < c.v)

def choiceZ (c : Cq) (q : Aq) : Bool := decide (1 ≤ q.T) && (decide (q.T ≤ c.v) && !isN q.H)

def triesZ (q : Aq) : Bool := decide (1 ≤ q.B) && (decide (q.B ≤ 4) && (decide (0 ≤ q.E) && decide (q.E ≤ 64)))

def kindZ (c : Cq) (q : Aq) : Bool := if q.k = 4 then true else if q.k = 3 then triesZ q && endZ c q else if q.k = 2 then choiceZ c q && endZ c q else if q.k = 1 then endZ c q else false

def promptZ (c : Cq) (zs : List Int) : Bool := decide (0 < zs.length) && zs.all (fun z => decide (0 ≤ z) && decide (z < c.v))

def longZ (q : Aq) : Bool := if q.k = 4 then decide (24 < (q.n : Int)) else decide (24 - (q.n : Int) < q.L)

def Cq.ok (c : Cq) : Bool := okB c.d c.h c.l c.v c.u c.x c.t c.n

def checkZ (c : Cq) (q : Aq) (zs : List Int) : Int := if c.ok && (promptZ c zs && kindZ c q) then if longZ q then 4 else 0 else 1

theorem Blk.ask {w : World} {b : Nat} {q : Aq} (h : Blk 36 w b q.cs) : w.cell? ⟨b, 0, none⟩ = some (.int .i64 q.k) ∧ w.cell? ⟨b, 1, none⟩ = some (.slice q.a q.n q.c) ∧ w.cell? ⟨b, 2, none⟩ = some (.int .i64 q.L) ∧ w.cell? ⟨b, 3, none⟩ = some (.int .i64 q.S) ∧ w.cell? ⟨b, 4, none⟩ = some (.int .u64 q.sd) ∧ w.cell? ⟨b, 5, none⟩ = some (.int .i64 q.T) ∧ w.cell? ⟨b, 6, none⟩ = some (.float .f64 q.H) ∧ w.cell? ⟨b, 7, none⟩ = some (.int .i64 q.B) ∧ w.cell? ⟨b, 8, none⟩ = some (.int .i64 q.E) :=
  ⟨h.cell 0 rfl, h.cell 1 rfl, h.cell 2 rfl, h.cell 3 rfl, h.cell 4 rfl, h.cell 5 rfl, h.cell 6 rfl, h.cell 7 rfl, h.cell 8 rfl⟩

theorem end_call (c : Cq) (q : Aq) (w : World) : Calls Try.prog 40 #[c.w, q.w] w fun e w' => e = .returned (.bool (endZ c q)) ∧ Below w.heap.size w w' := by
  have hb := below_new (below_new (Below.refl w.heap.size w) (.cells c.cs 31)) (.cells q.cs 36)
  by_cases h1 : 1 ≤ q.L <;> by_cases h2 : q.S < c.v <;>
  · go_enter Try.func40, Try.ntmps40
    go_wp2
    go_ret
    exact ⟨by simp [endZ, h1, h2], hb⟩

theorem tries_call (q : Aq) (w : World) : Calls Try.prog 39 #[q.w] w fun e w' => e = .returned (.bool (triesZ q)) ∧ Below w.heap.size w w' := by
  have hb := below_new (Below.refl w.heap.size w) (.cells q.cs 36)
  by_cases h1 : 1 ≤ q.B <;> by_cases h2 : q.B ≤ 4 <;> by_cases h3 : 0 ≤ q.E <;> by_cases h4 : q.E ≤ 64 <;>
  first | omega | (
    go_enter Try.func39, Try.ntmps39
    go_wp2
    go_ret
    exact ⟨by simp [triesZ, h1, h2, h3, h4], hb⟩)

theorem choice_call (c : Cq) (q : Aq) (w : World) : Calls Try.prog 41 #[c.w, q.w] w fun e w' => e = .returned (.bool (choiceZ c q)) ∧ Below w.heap.size w w' := by
  have hb := below_new (below_new (Below.refl w.heap.size w) (.cells c.cs 31)) (.cells q.cs 36)
  have k := heat_call q.H
  have eE : fixE q.H = 0 ↔ isN q.H = false := by unfold fixE; cases isN q.H <;> simp
  obtain ⟨E, hE⟩ : ∃ E, fixE q.H = E := ⟨_, rfl⟩
  rw [hE] at eE
  simp only [hE] at k
  clear hE
  by_cases h1 : 1 ≤ q.T <;> by_cases h2 : q.T ≤ c.v <;> by_cases h3 : E = 0 <;>
  · go_enter Try.func41, Try.ntmps41
    go_wp2_with (go_at_call 43; refine (k _).mono ?_; rintro e W1 ⟨rfl, h⟩; obtain rfl := h.symm; clear h)
    go_ret
    exact ⟨by cases hn : isN q.H <;> simp_all [choiceZ], hb⟩

theorem long_call (q : Aq) (w : World) (hn : (q.n : Int) ≤ 9223372036854775807) : Calls Try.prog 33 #[q.w] w fun e w' => e = .returned (.bool (longZ q)) ∧ Below w.heap.size w w' := by
  have hb := below_new (Below.refl w.heap.size w) (.cells q.cs 36)
  by_cases h1 : q.k = 4 <;> by_cases h2 : 24 < (q.n : Int) <;> by_cases h3 : 24 - (q.n : Int) < q.L <;>
  · go_enter Try.func33, Try.ntmps33
    go_wp2
    go_ret
    exact ⟨by simp [longZ, h1, h2, h3] <;> omega, hb⟩

set_option maxHeartbeats 4000000 in
theorem kind_call (c : Cq) (q : Aq) (w : World) : Calls Try.prog 32 #[c.w, q.w] w fun e w' => e = .returned (.bool (kindZ c q)) ∧ Below w.heap.size w w' := by
  have hb := below_new (below_new (Below.refl w.heap.size w) (.cells c.cs 31)) (.cells q.cs 36)
  have q0 : Blk 31 ((w.alloc (.cells c.cs 31)).alloc (.cells q.cs 36)) w.heap.size c.cs := (Blk.new 31 w _).kept (below_new (Below.refl _ _) _)
  have q1 : Blk 36 ((w.alloc (.cells c.cs 31)).alloc (.cells q.cs 36)) (w.heap.size + 1) q.cs := by simpa using Blk.new 36 (w.alloc (.cells c.cs 31)) q.cs
  obtain ⟨c0, c1, c2, c3, c4, c5, c6, c7⟩ := q0.cfg
  obtain ⟨a0, a1, a2, a3, a4, a5, a6, a7, a8⟩ := q1.ask
  have ke := end_call c q
  have kc := choice_call c q
  have kt := tries_call q
  obtain ⟨be, hbe⟩ : ∃ b, endZ c q = b := ⟨_, rfl⟩
  obtain ⟨bc, hbc⟩ : ∃ b, choiceZ c q = b := ⟨_, rfl⟩
  obtain ⟨bt, hbt⟩ : ∃ b, triesZ q = b := ⟨_, rfl⟩
  unfold kindZ
  simp only [hbe, hbc, hbt] at ke kc kt ⊢
  clear hbe hbc hbt
  have B : ∀ z : Int, q.k ≠ z → (q.k == z) = false := fun z h => by simpa using h
  by_cases h1 : q.k = 4
  · rw [if_pos h1]
    have e1 : (q.k == 4) = true := by simpa using h1
    clear B h1
    go_enter Try.func32, Try.ntmps32
    go_wp2_with (first
      | (go_at_call 39; refine (kt _).mono ?_; rintro e W1 ⟨rfl, h⟩; replace q0 := q0.kept h; replace q1 := q1.kept h; replace hb := below_then hb h; clear c0 c1 c2 c3 c4 c5 c6 c7 a0 a1 a2 a3 a4 a5 a6 a7 a8; obtain ⟨c0, c1, c2, c3, c4, c5, c6, c7⟩ := q0.cfg; obtain ⟨a0, a1, a2, a3, a4, a5, a6, a7, a8⟩ := q1.ask; clear h kt)
      | (go_at_call 41; refine (kc _).mono ?_; rintro e W1 ⟨rfl, h⟩; replace q0 := q0.kept h; replace q1 := q1.kept h; replace hb := below_then hb h; clear c0 c1 c2 c3 c4 c5 c6 c7 a0 a1 a2 a3 a4 a5 a6 a7 a8; obtain ⟨c0, c1, c2, c3, c4, c5, c6, c7⟩ := q0.cfg; obtain ⟨a0, a1, a2, a3, a4, a5, a6, a7, a8⟩ := q1.ask; clear h kc)
      | (go_at_call 40; refine (ke _).mono ?_; rintro e W1 ⟨rfl, h⟩; replace hb := below_then hb h; clear h ke))
    go_ret
    exact ⟨by simp [], hb⟩
  rw [if_neg h1]
  have f1 := B 4 h1
  by_cases h2 : q.k = 3
  · rw [if_pos h2]
    have e2 : (q.k == 3) = true := by simpa using h2
    clear B h1 h2
    cases bt <;>
    · go_enter Try.func32, Try.ntmps32
      go_wp2_with (first
        | (go_at_call 39; refine (kt _).mono ?_; rintro e W1 ⟨rfl, h⟩; replace q0 := q0.kept h; replace q1 := q1.kept h; replace hb := below_then hb h; clear c0 c1 c2 c3 c4 c5 c6 c7 a0 a1 a2 a3 a4 a5 a6 a7 a8; obtain ⟨c0, c1, c2, c3, c4, c5, c6, c7⟩ := q0.cfg; obtain ⟨a0, a1, a2, a3, a4, a5, a6, a7, a8⟩ := q1.ask; clear h kt)
        | (go_at_call 41; refine (kc _).mono ?_; rintro e W1 ⟨rfl, h⟩; replace q0 := q0.kept h; replace q1 := q1.kept h; replace hb := below_then hb h; clear c0 c1 c2 c3 c4 c5 c6 c7 a0 a1 a2 a3 a4 a5 a6 a7 a8; obtain ⟨c0, c1, c2, c3, c4, c5, c6, c7⟩ := q0.cfg; obtain ⟨a0, a1, a2, a3, a4, a5, a6, a7, a8⟩ := q1.ask; clear h kc)
        | (go_at_call 40; refine (ke _).mono ?_; rintro e W1 ⟨rfl, h⟩; replace hb := below_then hb h; clear h ke))
      go_ret
      exact ⟨by simp [], hb⟩
  rw [if_neg h2]
  have f2 := B 3 h2
  by_cases h3 : q.k = 2
  · rw [if_pos h3]
    have e3 : (q.k == 2) = true := by simpa using h3
    clear B h1 h2 h3
    cases bc <;>
    · go_enter Try.func32, Try.ntmps32
      go_wp2_with (first
        | (go_at_call 39; refine (kt _).mono ?_; rintro e W1 ⟨rfl, h⟩; replace q0 := q0.kept h; replace q1 := q1.kept h; replace hb := below_then hb h; clear c0 c1 c2 c3 c4 c5 c6 c7 a0 a1 a2 a3 a4 a5 a6 a7 a8; obtain ⟨c0, c1, c2, c3, c4, c5, c6, c7⟩ := q0.cfg; obtain ⟨a0, a1, a2, a3, a4, a5, a6, a7, a8⟩ := q1.ask; clear h kt)
        | (go_at_call 41; refine (kc _).mono ?_; rintro e W1 ⟨rfl, h⟩; replace q0 := q0.kept h; replace q1 := q1.kept h; replace hb := below_then hb h; clear c0 c1 c2 c3 c4 c5 c6 c7 a0 a1 a2 a3 a4 a5 a6 a7 a8; obtain ⟨c0, c1, c2, c3, c4, c5, c6, c7⟩ := q0.cfg; obtain ⟨a0, a1, a2, a3, a4, a5, a6, a7, a8⟩ := q1.ask; clear h kc)
        | (go_at_call 40; refine (ke _).mono ?_; rintro e W1 ⟨rfl, h⟩; replace hb := below_then hb h; clear h ke))
      go_ret
      exact ⟨by simp [], hb⟩
  rw [if_neg h3]
  have f3 := B 2 h3
  by_cases h4 : q.k = 1
  · rw [if_pos h4]
    have e4 : (q.k == 1) = true := by simpa using h4
    clear B h1 h2 h3 h4
    go_enter Try.func32, Try.ntmps32
    go_wp2_with (first
      | (go_at_call 39; refine (kt _).mono ?_; rintro e W1 ⟨rfl, h⟩; replace q0 := q0.kept h; replace q1 := q1.kept h; replace hb := below_then hb h; clear c0 c1 c2 c3 c4 c5 c6 c7 a0 a1 a2 a3 a4 a5 a6 a7 a8; obtain ⟨c0, c1, c2, c3, c4, c5, c6, c7⟩ := q0.cfg; obtain ⟨a0, a1, a2, a3, a4, a5, a6, a7, a8⟩ := q1.ask; clear h kt)
      | (go_at_call 41; refine (kc _).mono ?_; rintro e W1 ⟨rfl, h⟩; replace q0 := q0.kept h; replace q1 := q1.kept h; replace hb := below_then hb h; clear c0 c1 c2 c3 c4 c5 c6 c7 a0 a1 a2 a3 a4 a5 a6 a7 a8; obtain ⟨c0, c1, c2, c3, c4, c5, c6, c7⟩ := q0.cfg; obtain ⟨a0, a1, a2, a3, a4, a5, a6, a7, a8⟩ := q1.ask; clear h kc)
      | (go_at_call 40; refine (ke _).mono ?_; rintro e W1 ⟨rfl, h⟩; replace hb := below_then hb h; clear h ke))
    go_ret
    exact ⟨by simp [], hb⟩
  · rw [if_neg h4]
    have f4 := B 1 h4
    clear B h1 h2 h3 h4
    go_enter Try.func32, Try.ntmps32
    go_wp2_with (first
      | (go_at_call 39; refine (kt _).mono ?_; rintro e W1 ⟨rfl, h⟩; replace q0 := q0.kept h; replace q1 := q1.kept h; replace hb := below_then hb h; clear c0 c1 c2 c3 c4 c5 c6 c7 a0 a1 a2 a3 a4 a5 a6 a7 a8; obtain ⟨c0, c1, c2, c3, c4, c5, c6, c7⟩ := q0.cfg; obtain ⟨a0, a1, a2, a3, a4, a5, a6, a7, a8⟩ := q1.ask; clear h kt)
      | (go_at_call 41; refine (kc _).mono ?_; rintro e W1 ⟨rfl, h⟩; replace q0 := q0.kept h; replace q1 := q1.kept h; replace hb := below_then hb h; clear c0 c1 c2 c3 c4 c5 c6 c7 a0 a1 a2 a3 a4 a5 a6 a7 a8; obtain ⟨c0, c1, c2, c3, c4, c5, c6, c7⟩ := q0.cfg; obtain ⟨a0, a1, a2, a3, a4, a5, a6, a7, a8⟩ := q1.ask; clear h kc)
      | (go_at_call 40; refine (ke _).mono ?_; rintro e W1 ⟨rfl, h⟩; replace hb := below_then hb h; clear h ke))
    go_ret
    exact ⟨by simp [], hb⟩

end Go.Proofs.Ytcpnakghndfdpaa
