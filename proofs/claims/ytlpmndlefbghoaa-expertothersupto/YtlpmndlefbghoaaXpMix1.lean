/- What networks make of a row: the arms of the inner call but the last. -/
import Derived.Test.YtlpmndlefbghoaaRows
import Derived.Test.YtlpmndlefbghoaaView
import Derived.Test.YtlpmndlefbghoaaOwn
import Derived.Test.YtlpmndlefbghoaaSat
import Derived.Test.YtlpmndlefbghoaaAdds
import Derived.Test.YtlpmndlefbghoaaExp
import Derived.Test.YtlpmndlefbghoaaDots
import Derived.Test.YtlpmndlefbghoaaMats
import Derived.Test.YtlpmndlefbghoaaSoft
import Derived.Test.YtlpmndlefbghoaaMean
import Derived.Test.YtlpmndlefbghoaaGrids
import Derived.Test.YtlpmndlefbghoaaRanks
import Derived.Test.YtlpmndlefbghoaaInvIn
import Derived.Test.YtlpmndlefbghoaaHeld
import Derived.Test.YtlpmndlefbghoaaXpNeed
import Derived.Test.YtlpmndlefbghoaaXpPlain
import Derived.Test.YtlpmndlefbghoaaXpMat
import Derived.Test.YtlpmndlefbghoaaXpOne
import Derived.Test.YtlpmndlefbghoaaXpFace
import Derived.Test.YtlpmndlefbghoaaXpRouteZ
import Derived.Test.YtlpmndlefbghoaaXpRoute
import Derived.Test.YtlpmndlefbghoaaXpRouteF
import Derived.Test.YtlpmndlefbghoaaXpMixZ
import Derived.Test.YtlpmndlefbghoaaXpBlend
import Derived.Test.YtlpmndlefbghoaaXpGridB
import Derived.Test.YtlpmndlefbghoaaXpRegM
import Derived.Test.YtlpmndlefbghoaaXpRun
import Derived.WalkKit
import Derived.ProofKit
import Derived.OpenShut
import Derived.Below
import Derived.WalkLawsBesides
import Derived.Deep.QuietTactic
import Derived.BigQuiet
import Derived.Orders
import Derived.Shelf.Abstract
namespace Go.Proofs.Ytlpmndlefbghoaa
open Go.ChangeShapes Go.WideShapes Go.ChangeAt Go.RowKit
set_option linter.unusedVariables false
set_option linter.unusedSimpArgs false

theorem mix_shape (a0 : Option Addr) (n0 c0 : Nat) (ro : List Int) (a1 : Option Addr) (n c1 : Nat) (A1 : Nat → Option Addr) (C1 : Nat → Nat) (U : Nat → List Int) (a2 : Option Addr) (m c2 : Nat) (A2 : Nat → Option Addr) (C2 : Nat → Nat) (D : Nat → List Int) (h k : Int) (a5 : Option Addr) (n5 c5 : Nat) (xs : List Int) (w : World) (h0 : Reads .i8 w a0 n0 ro) (l0 : n0 ≤ c0) (g1 : Nets w a1 n A1 C1 U) (g2 : Nets w a2 m A2 C2 D) (h5 : Reads .i64 w a5 n5 xs) (wh : (Lit.int .i64 h).wf = true) (wk : (Lit.int .i64 k).wf = true) (b0 : n0 * 8 ≤ 140737488355328) (b1 : n * 24 ≤ 140737488351232) (b5 : n5 * 8 ≤ 140737488355328) (hf : n = 0 ∨ n ≠ m) :
    Calls Try.prog 23 #[.slice a0 n0 c0, .slice a1 n c1, .slice a2 m c2, .int .i64 h, .int .i64 k, .slice a5 n5 c5] w fun e w' => e = .panicked [{ v := .iface 28 (.int .i64 21), recovered := false }] ∧ w' = w := by
  have hm1 := g1.grid.max
  have hm2 := g2.grid.max
  by_cases hn : n = 0
  · subst hn
    go_enter Try.func23, Try.ntmps23
    go_wp2_with (go_at_call 35; refine (need_no _ _).mono ?_; rintro e w' ⟨rfl, hq⟩; obtain rfl := hq.symm)
    exact ⟨rfl, rfl, rfl⟩
  · have p1 : (0 : Int) < (n : Int) := by omega
    have p2 : ((n : Int) == (m : Int)) = false := by simp; omega
    go_enter Try.func23, Try.ntmps23
    go_wp2_with (go_at_call 35; refine (need_no _ _).mono ?_; rintro e w' ⟨rfl, hq⟩; obtain rfl := hq.symm)
    exact ⟨rfl, rfl, rfl⟩

set_option maxHeartbeats 2000000 in
theorem mix_one_yes (a0 : Option Addr) (n0 c0 : Nat) (ro : List Int) (a1 : Option Addr) (n c1 : Nat) (A1 : Nat → Option Addr) (C1 : Nat → Nat) (U : Nat → List Int) (a2 : Option Addr) (m c2 : Nat) (A2 : Nat → Option Addr) (C2 : Nat → Nat) (D : Nat → List Int) (h k : Int) (a5 : Option Addr) (n5 c5 : Nat) (xs : List Int) (w : World) (h0 : Reads .i8 w a0 n0 ro) (l0 : n0 ≤ c0) (g1 : Nets w a1 n A1 C1 U) (g2 : Nets w a2 m A2 C2 D) (h5 : Reads .i64 w a5 n5 xs) (wh : (Lit.int .i64 h).wf = true) (wk : (Lit.int .i64 k).wf = true) (b0 : n0 * 8 ≤ 140737488355328) (b1 : n * 24 ≤ 140737488351232) (b5 : n5 * 8 ≤ 140737488355328) (hn : n = 1) (hm : m = 1) (hf : oneB (U 0) (D 0) h xs = true) :
    Calls Try.prog 23 #[.slice a0 n0 c0, .slice a1 n c1, .slice a2 m c2, .int .i64 h, .int .i64 k, .slice a5 n5 c5] w fun e w' => (∃ a, e = .returned (.slice (some a) n5 n5) ∧ Reads .i64 w' (some a) n5 (oneL (U 0) (D 0) xs)) ∧ Below w.heap.size w w' := by
  subst hn
  subst hm
  obtain ⟨x, rfl⟩ := g1.grid.some_ (by omega)
  obtain ⟨y, rfl⟩ := g2.grid.some_ (by omega)
  have cx := fun (W : World) (hb : Below w.heap.size w W) => (g1.grid.below hb).cell x rfl 0 (by omega)
  have cy := fun (W : World) (hb : Below w.heap.size w W) => (g2.grid.below hb).cell y rfl 0 (by omega)
  simp only [Addr.add_zero'] at cx cy
  have ko := fun (W : World) (hb : Below w.heap.size w W) => one_yes (A1 0) (U 0).length (C1 0) (U 0) (A2 0) (D 0).length (C2 0) (D 0) h a5 n5 c5 xs W ((g1.grid.row 0 (by omega)).below hb) (g1.cap 0 (by omega)) ((g2.grid.row 0 (by omega)).below hb) (g2.cap 0 (by omega)) (h5.below hb) wh (g1.bnd 0 (by omega)) (g2.bnd 0 (by omega)) hf
  go_enter Try.func23, Try.ntmps23
  go_wp2_with (first
    | (go_at_call 35; refine (need_yes _ _).mono ?_; rintro e w' ⟨rfl, hq⟩; obtain rfl := hq.symm))
  refine mo_region x y 1 c1 c2 (U 0).length (C1 0) (D 0).length (C2 0) n5 c5 (A1 0) (A2 0) a5 h (oneL (U 0) (D 0) xs) (fun W => Below w.heap.size w W) (by kernel_rfl) rfl ⟨_, rfl, rfl, rfl, rfl, by kernel_rfl⟩ ⟨_, rfl, rfl, rfl, rfl, by kernel_rfl⟩ ⟨_, rfl, rfl, rfl, rfl, by kernel_rfl⟩ ⟨_, rfl, rfl, rfl, rfl, by kernel_rfl⟩ ⟨_, rfl, rfl, rfl, rfl, by kernel_rfl⟩ ⟨_, rfl, rfl, rfl, rfl, by kernel_rfl⟩ ⟨_, rfl, rfl, rfl, rfl, by kernel_rfl⟩ ⟨_, rfl, rfl, rfl, rfl, by kernel_rfl⟩ ⟨_, rfl, rfl, rfl, rfl, by kernel_rfl⟩ ⟨_, rfl, rfl, rfl, rfl, by kernel_rfl⟩ (Below.refl _ _).drew (run_index23z _ _ _ (by omega)) (fun W hb => run_load22 (cx W hb)) (run_index23z _ _ _ (by omega)) (fun W hb => run_load22 (cy W hb)) (fun W hb => (ko W hb).mono fun e w' ⟨⟨a, q1, q2, q3, q4⟩, q5⟩ => ⟨a, q1, q2, q5, below_then hb q5⟩) rfl rfl rfl rfl (Nat.le_of_ble_eq_true rfl) ?_
  intro a W9 hs hd hkp hS9 hval
  obtain ⟨b9, e12, f12⟩ := hval 9 12 (by decide) rfl
  have ep := frame_puts [34, 35, 36, 37, 38, 39, 40, 41, 42, 12] hs hd (fun s h => hkp s (fun i hi e => h (by
    rcases (show i = 0 ∨ i = 1 ∨ i = 2 ∨ i = 3 ∨ i = 4 ∨ i = 5 ∨ i = 6 ∨ i = 7 ∨ i = 8 ∨ i = 9 by omega) with rfl | rfl | rfl | rfl | rfl | rfl | rfl | rfl | rfl | rfl <;> (simp only [moD, Option.some.injEq] at e; subst e; simp))))
  simp only [List.foldl] at ep
  rw [e12] at ep
  have H9 := hidden_ hS9
  clear hs hd hkp hval hS9 e12
  generalize a.tmps.getD 34 undef = g34 at ep
  generalize a.tmps.getD 35 undef = g35 at ep
  generalize a.tmps.getD 36 undef = g36 at ep
  generalize a.tmps.getD 37 undef = g37 at ep
  generalize a.tmps.getD 38 undef = g38 at ep
  generalize a.tmps.getD 39 undef = g39 at ep
  generalize a.tmps.getD 40 undef = g40 at ep
  generalize a.tmps.getD 41 undef = g41 at ep
  generalize a.tmps.getD 42 undef = g42 at ep
  simp only [Act.put, List.setIfInBounds_toArray, List.set_cons_succ, List.set_cons_zero] at ep
  subst ep
  go_wp2
  go_ret
  exact ⟨⟨_, rfl, f12⟩, H9.out⟩

set_option maxHeartbeats 2000000 in
theorem mix_one_no (a0 : Option Addr) (n0 c0 : Nat) (ro : List Int) (a1 : Option Addr) (n c1 : Nat) (A1 : Nat → Option Addr) (C1 : Nat → Nat) (U : Nat → List Int) (a2 : Option Addr) (m c2 : Nat) (A2 : Nat → Option Addr) (C2 : Nat → Nat) (D : Nat → List Int) (h k : Int) (a5 : Option Addr) (n5 c5 : Nat) (xs : List Int) (w : World) (h0 : Reads .i8 w a0 n0 ro) (l0 : n0 ≤ c0) (g1 : Nets w a1 n A1 C1 U) (g2 : Nets w a2 m A2 C2 D) (h5 : Reads .i64 w a5 n5 xs) (wh : (Lit.int .i64 h).wf = true) (wk : (Lit.int .i64 k).wf = true) (b0 : n0 * 8 ≤ 140737488355328) (b1 : n * 24 ≤ 140737488351232) (b5 : n5 * 8 ≤ 140737488355328) (hn : n = 1) (hm : m = 1) (hf : oneB (U 0) (D 0) h xs = false) :
    Calls Try.prog 23 #[.slice a0 n0 c0, .slice a1 n c1, .slice a2 m c2, .int .i64 h, .int .i64 k, .slice a5 n5 c5] w fun e w' => e = .panicked [{ v := .iface 28 (.int .i64 21), recovered := false }] ∧ Below w.heap.size w w' := by
  subst hn
  subst hm
  obtain ⟨x, rfl⟩ := g1.grid.some_ (by omega)
  obtain ⟨y, rfl⟩ := g2.grid.some_ (by omega)
  have cx := fun (W : World) (hb : Below w.heap.size w W) => (g1.grid.below hb).cell x rfl 0 (by omega)
  have cy := fun (W : World) (hb : Below w.heap.size w W) => (g2.grid.below hb).cell y rfl 0 (by omega)
  simp only [Addr.add_zero'] at cx cy
  have ko := fun (W : World) (hb : Below w.heap.size w W) => one_no (A1 0) (U 0).length (C1 0) (U 0) (A2 0) (D 0).length (C2 0) (D 0) h a5 n5 c5 xs W ((g1.grid.row 0 (by omega)).below hb) (g1.cap 0 (by omega)) ((g2.grid.row 0 (by omega)).below hb) (g2.cap 0 (by omega)) (h5.below hb) wh (g1.bnd 0 (by omega)) (g2.bnd 0 (by omega)) hf
  go_enter Try.func23, Try.ntmps23
  go_wp2_with (first
    | (go_at_call 35; refine (need_yes _ _).mono ?_; rintro e w' ⟨rfl, hq⟩; obtain rfl := hq.symm))
  refine mp_region x y 1 c1 c2 (U 0).length (C1 0) (D 0).length (C2 0) n5 c5 (A1 0) (A2 0) a5 h (fun W => Below w.heap.size w W) ([{ v := .iface 28 (.int .i64 21), recovered := false }]) (fun W => Below w.heap.size w W) (by kernel_rfl) rfl ⟨_, rfl, rfl, rfl, rfl, by kernel_rfl⟩ ⟨_, rfl, rfl, rfl, rfl, by kernel_rfl⟩ ⟨_, rfl, rfl, rfl, rfl, by kernel_rfl⟩ ⟨_, rfl, rfl, rfl, rfl, by kernel_rfl⟩ ⟨_, rfl, rfl, rfl, rfl, by kernel_rfl⟩ ⟨_, rfl, rfl, rfl, rfl, by kernel_rfl⟩ ⟨_, rfl, rfl, rfl, rfl, by kernel_rfl⟩ ⟨_, rfl, rfl, rfl, rfl, by kernel_rfl⟩ ⟨_, rfl, rfl, rfl, rfl, by kernel_rfl⟩ ⟨_, rfl, rfl, rfl, rfl, by kernel_rfl⟩ (Below.refl _ _).drew (run_index23z _ _ _ (by omega)) (fun W hb => run_load22 (cx W hb)) (run_index23z _ _ _ (by omega)) (fun W hb => run_load22 (cy W hb)) (fun W hb => (ko W hb).mono fun e w' ⟨q1, q5⟩ => ⟨q1, below_then hb q5⟩) rfl rfl rfl rfl (Nat.le_of_ble_eq_true rfl) ?_
  intro a W hd hT
  exact ⟨hd, rfl, hT⟩

theorem mix_route_no (a0 : Option Addr) (n0 c0 : Nat) (ro : List Int) (a1 : Option Addr) (n c1 : Nat) (A1 : Nat → Option Addr) (C1 : Nat → Nat) (U : Nat → List Int) (a2 : Option Addr) (m c2 : Nat) (A2 : Nat → Option Addr) (C2 : Nat → Nat) (D : Nat → List Int) (h k : Int) (a5 : Option Addr) (n5 c5 : Nat) (xs : List Int) (w : World) (h0 : Reads .i8 w a0 n0 ro) (l0 : n0 ≤ c0) (g1 : Nets w a1 n A1 C1 U) (g2 : Nets w a2 m A2 C2 D) (h5 : Reads .i64 w a5 n5 xs) (wh : (Lit.int .i64 h).wf = true) (wk : (Lit.int .i64 k).wf = true) (b0 : n0 * 8 ≤ 140737488355328) (b1 : n * 24 ≤ 140737488351232) (b5 : n5 * 8 ≤ 140737488355328) (hn : 1 < n) (hm : n = m) (hf : routeB ro n k xs = false) :
    Calls Try.prog 23 #[.slice a0 n0 c0, .slice a1 n c1, .slice a2 m c2, .int .i64 h, .int .i64 k, .slice a5 n5 c5] w fun e w' => e = .panicked [{ v := .iface 28 (.int .i64 (routeE ro n k xs)), recovered := false }] ∧ Below w.heap.size w w' := by
  subst hm
  have hm1 := g1.grid.max
  have p1 : (0 : Int) < (n : Int) := by omega
  have p2 : ((n : Int) == 1) = false := by simp; omega
  have kr := route_no a0 n0 c0 ro n k a5 n5 c5 xs w h0 l0 h5 (WalkArith.wf_i64 ⟨by omega, by omega⟩) wk b0 hf
  generalize routeE ro n k xs = E at kr ⊢
  go_enter Try.func23, Try.ntmps23
  go_wp2_with (first
    | (go_at_call 35; refine (need_yes _ _).mono ?_; rintro e w' ⟨rfl, hq⟩; obtain rfl := hq.symm)
    | (go_at_call 28; refine kr.mono ?_; rintro e w' ⟨rfl, hB⟩))
  exact ⟨rfl, rfl, hB⟩

end Go.Proofs.Ytlpmndlefbghoaa
