/- What networks make of a row, whatever comes: the contract of the document's call. -/
import Derived.Test.YtlpmndlefbghoaaRows
import Derived.Test.YtlpmndlefbghoaaView
import Derived.Test.YtlpmndlefbghoaaOwn
import Derived.Test.YtlpmndlefbghoaaSat
import Derived.Test.YtlpmndlefbghoaaAdds
import Derived.Test.YtlpmndlefbghoaaExp
import Derived.Test.YtlpmndlefbghoaaDots
import Derived.Test.YtlpmndlefbghoaaMats
import Derived.Test.YtlpmndlefbghoaaSoft
import Derived.Test.YtlpmndlefbghoaaMean
import Derived.Test.YtlpmndlefbghoaaGrids
import Derived.Test.YtlpmndlefbghoaaRanks
import Derived.Test.YtlpmndlefbghoaaInvIn
import Derived.Test.YtlpmndlefbghoaaHeld
import Derived.Test.YtlpmndlefbghoaaXpNeed
import Derived.Test.YtlpmndlefbghoaaXpPlain
import Derived.Test.YtlpmndlefbghoaaXpMat
import Derived.Test.YtlpmndlefbghoaaXpOne
import Derived.Test.YtlpmndlefbghoaaXpFace
import Derived.Test.YtlpmndlefbghoaaXpRouteZ
import Derived.Test.YtlpmndlefbghoaaXpRoute
import Derived.Test.YtlpmndlefbghoaaXpRouteF
import Derived.Test.YtlpmndlefbghoaaXpMixZ
import Derived.Test.YtlpmndlefbghoaaXpBlend
import Derived.Test.YtlpmndlefbghoaaXpGridB
import Derived.Test.YtlpmndlefbghoaaXpRegM
import Derived.Test.YtlpmndlefbghoaaXpRun
import Derived.Test.YtlpmndlefbghoaaSatRef
import Derived.Test.YtlpmndlefbghoaaSteps
import Derived.Test.YtlpmndlefbghoaaXpRefOne
import Derived.Test.YtlpmndlefbghoaaXpRefRoute
import Derived.Test.YtlpmndlefbghoaaXpRefRouteN
import Derived.Test.YtlpmndlefbghoaaXpRegR
import Derived.Test.YtlpmndlefbghoaaXpRefMix1
import Derived.Test.YtlpmndlefbghoaaXpRefMix2
import Derived.WalkKit
import Derived.ProofKit
import Derived.OpenShut
import Derived.Below
import Derived.WalkLawsBesides
import Derived.Deep.QuietTactic
import Derived.BigQuiet
namespace Go.Proofs.Ytlpmndlefbghoaa
open Go.ChangeShapes Go.WideShapes Go.ChangeAt Go.RowKit
set_option linter.unusedVariables false
set_option linter.unusedSimpArgs false

theorem refMix_call (a0 : Option Addr) (n0 c0 : Nat) (ro : List Int) (a1 : Option Addr) (n c1 : Nat) (A1 : Nat → Option Addr) (C1 : Nat → Nat) (U : Nat → List Int) (a2 : Option Addr) (m c2 : Nat) (A2 : Nat → Option Addr) (C2 : Nat → Nat) (D : Nat → List Int) (h k : Int) (a5 : Option Addr) (n5 c5 : Nat) (xs : List Int) (w : World) (h0 : Reads .i8 w a0 n0 ro) (l0 : n0 ≤ c0) (g1 : Nets w a1 n A1 C1 U) (g2 : Nets w a2 m A2 C2 D) (h5 : Reads .i64 w a5 n5 xs) (wh : (Lit.int .i64 h).wf = true) (wk : (Lit.int .i64 k).wf = true) (b0 : n0 * 8 ≤ 140737488355328) (b1 : n * 24 ≤ 140737488351232) (b5 : n5 * 8 ≤ 140737488355328) :
    Calls Try.prog 11 #[.slice a0 n0 c0, .slice a1 n c1, .slice a2 m c2, .int .i64 h, .int .i64 k, .slice a5 n5 c5] w fun e w' => (∃ a j c, e = .returned (.tuple #[.slice a j c, .int .i64 (mixE ro n m U D h k xs)]) ∧ Reads .i64 w' a j (mixR ro n m U D h k xs)) ∧ Below w.heap.size w w' := by
  have non : ∀ {f : Int}, ¬ f = 0 → (Calls Try.prog 11 #[.slice a0 n0 c0, .slice a1 n c1, .slice a2 m c2, .int .i64 h, .int .i64 k, .slice a5 n5 c5] w fun e w' => e = .returned (.tuple #[.slice none 0 0, .int .i64 f]) ∧ Below w.heap.size w w') → mixE ro n m U D h k xs = f →
      Calls Try.prog 11 #[.slice a0 n0 c0, .slice a1 n c1, .slice a2 m c2, .int .i64 h, .int .i64 k, .slice a5 n5 c5] w fun e w' => (∃ a j c, e = .returned (.tuple #[.slice a j c, .int .i64 (mixE ro n m U D h k xs)]) ∧ Reads .i64 w' a j (mixR ro n m U D h k xs)) ∧ Below w.heap.size w w' := by
    intro f hf hc he
    unfold mixR
    rw [he, if_neg hf]
    exact hc.mono fun e w' ⟨he, hb⟩ => ⟨⟨none, 0, 0, he, Reads.nil _ _⟩, hb⟩
  by_cases c1' : n = 0 ∨ n ≠ m
  · exact non (f := 21) (by decide) ((refMix_shape a0 n0 c0 ro a1 n c1 A1 C1 U a2 m c2 A2 C2 D h k a5 n5 c5 xs w h0 l0 g1 g2 h5 wh wk b0 b1 b5 c1').mono fun e w' ⟨he, hw⟩ => ⟨he, hw ▸ Below.refl _ _⟩) (by unfold mixE; rw [if_pos c1'])
  · have hm : n = m := by omega
    by_cases c2' : n = 1
    · have e1 : mixE ro n m U D h k xs = if oneB (U 0) (D 0) h xs then 0 else 21 := by unfold mixE; rw [if_neg c1', if_pos c2']
      have e2 : mixR ro n m U D h k xs = if oneB (U 0) (D 0) h xs then oneL (U 0) (D 0) xs else [] := by
        unfold mixR mixL
        rw [e1, if_pos c2']
        cases oneB (U 0) (D 0) h xs <;> rfl
      rw [e1, e2]
      exact refMix_one a0 n0 c0 ro a1 n c1 A1 C1 U a2 m c2 A2 C2 D h k a5 n5 c5 xs w h0 l0 g1 g2 h5 wh wk b0 b1 b5 c2' (by omega)
    · cases hf : routeB ro n k xs with
      | false => exact non (routeE_ne hf) (refMix_route_no a0 n0 c0 ro a1 n c1 A1 C1 U a2 m c2 A2 C2 D h k a5 n5 c5 xs w h0 l0 g1 g2 h5 wh wk b0 b1 b5 (by omega) hm hf) (by unfold mixE; rw [if_neg c1', if_neg c2', if_pos hf])
      | true =>
        cases hr : restB ro U D h k.toNat xs with
        | true =>
          have e1 : mixE ro n m U D h k xs = 0 := by unfold mixE; rw [if_neg c1', if_neg c2', if_neg (by rw [hf]; decide), hr]; rfl
          unfold mixR mixL
          rw [e1, if_pos rfl, if_neg c2']
          exact (refMix_yes a0 n0 c0 ro a1 n c1 A1 C1 U a2 m c2 A2 C2 D h k a5 n5 c5 xs w h0 l0 g1 g2 h5 wh wk b0 b1 b5 (by omega) hm hf hr).mono fun e w' ⟨⟨a, c, he, hr⟩, hb⟩ => ⟨⟨a, n5, c, he, hr⟩, hb⟩
        | false => exact non (f := 21) (by decide) (refMix_rest_no a0 n0 c0 ro a1 n c1 A1 C1 U a2 m c2 A2 C2 D h k a5 n5 c5 xs w h0 l0 g1 g2 h5 wh wk b0 b1 b5 (by omega) hm hf hr) (by unfold mixE; rw [if_neg c1', if_neg c2', if_neg (by rw [hf]; decide), hr]; rfl)

end Go.Proofs.Ytlpmndlefbghoaa
