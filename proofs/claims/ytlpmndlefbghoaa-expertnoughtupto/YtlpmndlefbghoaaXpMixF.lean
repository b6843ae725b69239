/- What networks make of a row, at the face: what is thrown is told as the error. -/
import Derived.Test.YtlpmndlefbghoaaRows
import Derived.Test.YtlpmndlefbghoaaView
import Derived.Test.YtlpmndlefbghoaaOwn
import Derived.Test.YtlpmndlefbghoaaSat
import Derived.Test.YtlpmndlefbghoaaAdds
import Derived.Test.YtlpmndlefbghoaaExp
import Derived.Test.YtlpmndlefbghoaaDots
import Derived.Test.YtlpmndlefbghoaaMats
import Derived.Test.YtlpmndlefbghoaaSoft
import Derived.Test.YtlpmndlefbghoaaMean
import Derived.Test.YtlpmndlefbghoaaGrids
import Derived.Test.YtlpmndlefbghoaaRanks
import Derived.Test.YtlpmndlefbghoaaInvIn
import Derived.Test.YtlpmndlefbghoaaHeld
import Derived.Test.YtlpmndlefbghoaaXpNeed
import Derived.Test.YtlpmndlefbghoaaXpPlain
import Derived.Test.YtlpmndlefbghoaaXpMat
import Derived.Test.YtlpmndlefbghoaaXpOne
import Derived.Test.YtlpmndlefbghoaaXpFace
import Derived.Test.YtlpmndlefbghoaaXpRouteZ
import Derived.Test.YtlpmndlefbghoaaXpRoute
import Derived.Test.YtlpmndlefbghoaaXpRouteF
import Derived.Test.YtlpmndlefbghoaaXpMixZ
import Derived.Test.YtlpmndlefbghoaaXpBlend
import Derived.Test.YtlpmndlefbghoaaXpGridB
import Derived.Test.YtlpmndlefbghoaaXpRegM
import Derived.Test.YtlpmndlefbghoaaXpRun
import Derived.Test.YtlpmndlefbghoaaXpMix1
import Derived.Test.YtlpmndlefbghoaaXpMix2
import Derived.WalkKit
import Derived.ProofKit
import Derived.OpenShut
import Derived.Below
import Derived.WalkLawsBesides
import Derived.Deep.QuietTactic
import Derived.BigQuiet
import Derived.Defers
import Derived.Recover
import Derived.Laws.Pointers
namespace Go.Proofs.Ytlpmndlefbghoaa
open Go.ChangeShapes Go.WideShapes Go.ChangeAt Go.RowKit
set_option linter.unusedVariables false
set_option linter.unusedSimpArgs false

theorem mix_ok (a0 : Option Addr) (n0 c0 : Nat) (ro : List Int) (a1 : Option Addr) (n c1 : Nat) (A1 : Nat → Option Addr) (C1 : Nat → Nat) (U : Nat → List Int) (a2 : Option Addr) (m c2 : Nat) (A2 : Nat → Option Addr) (C2 : Nat → Nat) (D : Nat → List Int) (h k : Int) (a5 : Option Addr) (n5 c5 : Nat) (xs : List Int) (w : World) (h0 : Reads .i8 w a0 n0 ro) (l0 : n0 ≤ c0) (g1 : Nets w a1 n A1 C1 U) (g2 : Nets w a2 m A2 C2 D) (h5 : Reads .i64 w a5 n5 xs) (wh : (Lit.int .i64 h).wf = true) (wk : (Lit.int .i64 k).wf = true) (b0 : n0 * 8 ≤ 140737488355328) (b1 : n * 24 ≤ 140737488351232) (b5 : n5 * 8 ≤ 140737488355328) (hE : mixE ro n m U D h k xs = 0) :
    Calls Try.prog 23 #[.slice a0 n0 c0, .slice a1 n c1, .slice a2 m c2, .int .i64 h, .int .i64 k, .slice a5 n5 c5] w fun e w' => (∃ a c, e = .returned (.slice a n5 c) ∧ Reads .i64 w' a n5 (mixL ro n U D k xs)) ∧ Below w.heap.size w w' := by
  unfold mixE at hE
  by_cases c1' : n = 0 ∨ n ≠ m
  · rw [if_pos c1'] at hE
    exact absurd hE (by decide)
  · rw [if_neg c1'] at hE
    have hm : n = m := by omega
    unfold mixL
    by_cases c2' : n = 1
    · rw [if_pos c2'] at hE ⊢
      cases hf : oneB (U 0) (D 0) h xs with
      | true => exact (mix_one_yes a0 n0 c0 ro a1 n c1 A1 C1 U a2 m c2 A2 C2 D h k a5 n5 c5 xs w h0 l0 g1 g2 h5 wh wk b0 b1 b5 c2' (by omega) hf).mono fun e w' ⟨⟨a, he, hr⟩, hb⟩ => ⟨⟨some a, n5, he, hr⟩, hb⟩
      | false =>
        rw [hf] at hE
        exact absurd hE (by decide)
    · rw [if_neg c2'] at hE ⊢
      cases hf : routeB ro n k xs with
      | false =>
        rw [if_pos hf] at hE
        exact absurd hE (routeE_ne hf)
      | true =>
        rw [if_neg (by rw [hf]; decide)] at hE
        cases hr : restB ro U D h k.toNat xs with
        | true => exact mix_yes a0 n0 c0 ro a1 n c1 A1 C1 U a2 m c2 A2 C2 D h k a5 n5 c5 xs w h0 l0 g1 g2 h5 wh wk b0 b1 b5 (by omega) hm hf hr
        | false =>
          rw [hr] at hE
          exact absurd hE (by decide)

theorem mix_bad (a0 : Option Addr) (n0 c0 : Nat) (ro : List Int) (a1 : Option Addr) (n c1 : Nat) (A1 : Nat → Option Addr) (C1 : Nat → Nat) (U : Nat → List Int) (a2 : Option Addr) (m c2 : Nat) (A2 : Nat → Option Addr) (C2 : Nat → Nat) (D : Nat → List Int) (h k : Int) (a5 : Option Addr) (n5 c5 : Nat) (xs : List Int) (w : World) (h0 : Reads .i8 w a0 n0 ro) (l0 : n0 ≤ c0) (g1 : Nets w a1 n A1 C1 U) (g2 : Nets w a2 m A2 C2 D) (h5 : Reads .i64 w a5 n5 xs) (wh : (Lit.int .i64 h).wf = true) (wk : (Lit.int .i64 k).wf = true) (b0 : n0 * 8 ≤ 140737488355328) (b1 : n * 24 ≤ 140737488351232) (b5 : n5 * 8 ≤ 140737488355328) (hE : ¬ mixE ro n m U D h k xs = 0) :
    Calls Try.prog 23 #[.slice a0 n0 c0, .slice a1 n c1, .slice a2 m c2, .int .i64 h, .int .i64 k, .slice a5 n5 c5] w fun e w' => e = .panicked [{ v := .iface 28 (.int .i64 (mixE ro n m U D h k xs)), recovered := false }] ∧ Below w.heap.size w w' := by
  unfold mixE at hE ⊢
  by_cases c1' : n = 0 ∨ n ≠ m
  · rw [if_pos c1']
    exact (mix_shape a0 n0 c0 ro a1 n c1 A1 C1 U a2 m c2 A2 C2 D h k a5 n5 c5 xs w h0 l0 g1 g2 h5 wh wk b0 b1 b5 c1').mono fun e w' ⟨he, hw⟩ => ⟨he, hw ▸ Below.refl _ _⟩
  · rw [if_neg c1'] at hE ⊢
    have hm : n = m := by omega
    by_cases c2' : n = 1
    · rw [if_pos c2'] at hE ⊢
      cases hf : oneB (U 0) (D 0) h xs with
      | true =>
        rw [hf] at hE
        exact absurd rfl hE
      | false => exact mix_one_no a0 n0 c0 ro a1 n c1 A1 C1 U a2 m c2 A2 C2 D h k a5 n5 c5 xs w h0 l0 g1 g2 h5 wh wk b0 b1 b5 c2' (by omega) hf
    · rw [if_neg c2'] at hE ⊢
      cases hf : routeB ro n k xs with
      | false =>
        rw [if_pos rfl]
        exact mix_route_no a0 n0 c0 ro a1 n c1 A1 C1 U a2 m c2 A2 C2 D h k a5 n5 c5 xs w h0 l0 g1 g2 h5 wh wk b0 b1 b5 (by omega) hm hf
      | true =>
        rw [if_neg (by decide)]
        cases hr : restB ro U D h k.toNat xs with
        | true =>
          rw [hf, hr] at hE
          exact absurd rfl hE
        | false => exact mix_rest_no a0 n0 c0 ro a1 n c1 A1 C1 U a2 m c2 A2 C2 D h k a5 n5 c5 xs w h0 l0 g1 g2 h5 wh wk b0 b1 b5 (by omega) hm hf hr

theorem Mix_yes (a0 : Option Addr) (n0 c0 : Nat) (ro : List Int) (a1 : Option Addr) (n c1 : Nat) (A1 : Nat → Option Addr) (C1 : Nat → Nat) (U : Nat → List Int) (a2 : Option Addr) (m c2 : Nat) (A2 : Nat → Option Addr) (C2 : Nat → Nat) (D : Nat → List Int) (h k : Int) (a5 : Option Addr) (n5 c5 : Nat) (xs : List Int) (w : World) (h0 : Reads .i8 w a0 n0 ro) (l0 : n0 ≤ c0) (g1 : Nets w a1 n A1 C1 U) (g2 : Nets w a2 m A2 C2 D) (h5 : Reads .i64 w a5 n5 xs) (wh : (Lit.int .i64 h).wf = true) (wk : (Lit.int .i64 k).wf = true) (b0 : n0 * 8 ≤ 140737488355328) (b1 : n * 24 ≤ 140737488351232) (b5 : n5 * 8 ≤ 140737488355328) (hE : mixE ro n m U D h k xs = 0) :
    Calls Try.prog 9 #[.slice a0 n0 c0, .slice a1 n c1, .slice a2 m c2, .int .i64 h, .int .i64 k, .slice a5 n5 c5] w fun e w' => (∃ a c, e = .returned (.tuple #[.slice a n5 c, .int .i64 0]) ∧ Reads .i64 w' a n5 (mixL ro n U D k xs)) ∧ Below w.heap.size w w' := by
  have hmf : ∀ (fn : Fn) (first cap : Array Value) (w : World), (Instr.makeFunc fn first cap).run Try.prog w = .ok (.func fn first cap) w := fun _ _ _ _ => rfl
  have ko : Calls Try.prog 23 #[.slice a0 n0 c0, .slice a1 n c1, .slice a2 m c2, .int .i64 h, .int .i64 k, .slice a5 n5 c5] (w.alloc (.cells #[.int .i64 0] 28)) fun e W1 => ∃ a c, e = .returned (.slice a n5 c) ∧ (W1.cell? ⟨w.heap.size, 0, none⟩ = some (.int .i64 0) ∧ W1.frozen? ⟨w.heap.size, 0, none⟩ = false) ∧
      Hid (Reads .i64 W1 a n5 (mixL ro n U D k xs) ∧ Below w.heap.size w W1) := by
    have bn := below_new (Below.refl w.heap.size w) (.cells #[.int .i64 0] 28)
    refine (mix_ok a0 n0 c0 ro a1 n c1 A1 C1 U a2 m c2 A2 C2 D h k a5 n5 c5 xs _ (h0.below bn) l0 (g1.below bn) (g2.below bn) (h5.below bn) wh wk b0 b1 b5 hE).mono ?_
    rintro e W1 ⟨⟨a, c, rfl, hr⟩, hb⟩
    obtain ⟨q1, q2, q3⟩ := face_box hb
    exact ⟨a, c, rfl, ⟨q1, q2⟩, hr, q3⟩
  go_enter_defers Try.func9, Try.ntmps9
  go_wp2_with (go_at_call 23; refine ko.mono ?_; rintro e W1 ⟨a, c, rfl, ⟨q1, q2⟩, H⟩)
  refine leaves_cons (f := 21) (args := #[.pointer (some ⟨w.heap.size, 0, none⟩)]) (by simp) (by simp [go_sem]) ?_
  rw [set_same q1]
  refine (catch_idle21 ⟨w.heap.size, 0, none⟩ 0 _ q1 q2).mono ?_
  rintro e u' w'' ⟨rfl, rfl, rfl⟩
  rw [set_same q1]
  simp [Leaves, settle, results, Try.results9, go_sem, q1]
  exact H.out

theorem Mix_no (a0 : Option Addr) (n0 c0 : Nat) (ro : List Int) (a1 : Option Addr) (n c1 : Nat) (A1 : Nat → Option Addr) (C1 : Nat → Nat) (U : Nat → List Int) (a2 : Option Addr) (m c2 : Nat) (A2 : Nat → Option Addr) (C2 : Nat → Nat) (D : Nat → List Int) (h k : Int) (a5 : Option Addr) (n5 c5 : Nat) (xs : List Int) (w : World) (h0 : Reads .i8 w a0 n0 ro) (l0 : n0 ≤ c0) (g1 : Nets w a1 n A1 C1 U) (g2 : Nets w a2 m A2 C2 D) (h5 : Reads .i64 w a5 n5 xs) (wh : (Lit.int .i64 h).wf = true) (wk : (Lit.int .i64 k).wf = true) (b0 : n0 * 8 ≤ 140737488355328) (b1 : n * 24 ≤ 140737488351232) (b5 : n5 * 8 ≤ 140737488355328) (hE : ¬ mixE ro n m U D h k xs = 0) :
    Calls Try.prog 9 #[.slice a0 n0 c0, .slice a1 n c1, .slice a2 m c2, .int .i64 h, .int .i64 k, .slice a5 n5 c5] w fun e w' => e = .returned (.tuple #[.slice none 0 0, .int .i64 (mixE ro n m U D h k xs)]) ∧ Below w.heap.size w w' := by
  have hmf : ∀ (fn : Fn) (first cap : Array Value) (w : World), (Instr.makeFunc fn first cap).run Try.prog w = .ok (.func fn first cap) w := fun _ _ _ _ => rfl
  have ko : Calls Try.prog 23 #[.slice a0 n0 c0, .slice a1 n c1, .slice a2 m c2, .int .i64 h, .int .i64 k, .slice a5 n5 c5] (w.alloc (.cells #[.int .i64 0] 28)) fun e W1 => e = .panicked [{ v := .iface 28 (.int .i64 (mixE ro n m U D h k xs)), recovered := false }] ∧ (W1.cell? ⟨w.heap.size, 0, none⟩ = some (.int .i64 0) ∧ W1.frozen? ⟨w.heap.size, 0, none⟩ = false) ∧ Below w.heap.size w W1 := by
    have bn := below_new (Below.refl w.heap.size w) (.cells #[.int .i64 0] 28)
    refine (mix_bad a0 n0 c0 ro a1 n c1 A1 C1 U a2 m c2 A2 C2 D h k a5 n5 c5 xs _ (h0.below bn) l0 (g1.below bn) (g2.below bn) (h5.below bn) wh wk b0 b1 b5 hE).mono ?_
    rintro e W1 ⟨rfl, hb⟩
    obtain ⟨q1, q2, q3⟩ := face_box hb
    exact ⟨rfl, ⟨q1, q2⟩, q3⟩
  obtain ⟨DD, eD⟩ : ∃ DD, mixE ro n m U D h k xs = DD := ⟨_, rfl⟩
  rw [eD] at ko ⊢
  go_enter_defers Try.func9, Try.ntmps9
  go_wp2_with (go_at_call 23; refine ko.mono ?_; rintro e W1 ⟨rfl, ⟨q1, q2⟩, hB⟩)
  refine leaves_cons (f := 21) (args := #[.pointer (some ⟨w.heap.size, 0, none⟩)]) (by simp) (by simp [go_sem]) ?_
  refine (catch_panic21 ⟨w.heap.size, 0, none⟩ 0 DD [] _ q1 q2).mono ?_
  rintro e u' w'' ⟨rfl, rfl, rfl⟩
  have q3 : (W1.setCell ⟨w.heap.size, 0, none⟩ (.int .i64 DD)).cell? ⟨w.heap.size, 0, none⟩ = some (.int .i64 DD) := World.cell?_setCell_same _ _ _ q1
  have H' : Below w.heap.size w (W1.setCell ⟨w.heap.size, 0, none⟩ (.int .i64 DD)) := hB.setCell (Nat.le_refl _) _
  generalize (W1.setCell ⟨w.heap.size, 0, none⟩ (.int .i64 DD)) = W2 at q3 H' ⊢
  simp [Leaves, settle, results, Try.results9, go_sem, q3]
  exact H'

theorem Mix_call (a0 : Option Addr) (n0 c0 : Nat) (ro : List Int) (a1 : Option Addr) (n c1 : Nat) (A1 : Nat → Option Addr) (C1 : Nat → Nat) (U : Nat → List Int) (a2 : Option Addr) (m c2 : Nat) (A2 : Nat → Option Addr) (C2 : Nat → Nat) (D : Nat → List Int) (h k : Int) (a5 : Option Addr) (n5 c5 : Nat) (xs : List Int) (w : World) (h0 : Reads .i8 w a0 n0 ro) (l0 : n0 ≤ c0) (g1 : Nets w a1 n A1 C1 U) (g2 : Nets w a2 m A2 C2 D) (h5 : Reads .i64 w a5 n5 xs) (wh : (Lit.int .i64 h).wf = true) (wk : (Lit.int .i64 k).wf = true) (b0 : n0 * 8 ≤ 140737488355328) (b1 : n * 24 ≤ 140737488351232) (b5 : n5 * 8 ≤ 140737488355328) :
    Calls Try.prog 9 #[.slice a0 n0 c0, .slice a1 n c1, .slice a2 m c2, .int .i64 h, .int .i64 k, .slice a5 n5 c5] w fun e w' => (∃ a j c, e = .returned (.tuple #[.slice a j c, .int .i64 (mixE ro n m U D h k xs)]) ∧ Reads .i64 w' a j (mixR ro n m U D h k xs)) ∧ Below w.heap.size w w' := by
  unfold mixR
  by_cases hE : mixE ro n m U D h k xs = 0
  · rw [if_pos hE, hE]
    exact (Mix_yes a0 n0 c0 ro a1 n c1 A1 C1 U a2 m c2 A2 C2 D h k a5 n5 c5 xs w h0 l0 g1 g2 h5 wh wk b0 b1 b5 hE).mono fun e w' ⟨⟨a, c, he, hr⟩, hb⟩ => ⟨⟨a, n5, c, he, hr⟩, hb⟩
  · rw [if_neg hE]
    exact (Mix_no a0 n0 c0 ro a1 n c1 A1 C1 U a2 m c2 A2 C2 D h k a5 n5 c5 xs w h0 l0 g1 g2 h5 wh wk b0 b1 b5 hE).mono fun e w' ⟨he, hb⟩ => ⟨⟨none, 0, 0, he, Reads.nil _ _⟩, hb⟩

end Go.Proofs.Ytlpmndlefbghoaa
