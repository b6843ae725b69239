/- Which networks a row goes to, and with what shares, at the face. -/
import Derived.Test.YtlpmndlefbghoaaRows
import Derived.Test.YtlpmndlefbghoaaView
import Derived.Test.YtlpmndlefbghoaaOwn
import Derived.Test.YtlpmndlefbghoaaSat
import Derived.Test.YtlpmndlefbghoaaExp
import Derived.Test.YtlpmndlefbghoaaFitZ
import Derived.Test.YtlpmndlefbghoaaMats
import Derived.Test.YtlpmndlefbghoaaSoft
import Derived.Test.YtlpmndlefbghoaaRanks
import Derived.Test.YtlpmndlefbghoaaHeld
import Derived.Test.YtlpmndlefbghoaaXpNeed
import Derived.Test.YtlpmndlefbghoaaAskZ
import Derived.Test.YtlpmndlefbghoaaXpRouteZ
import Derived.Test.YtlpmndlefbghoaaOneZ
import Derived.Test.YtlpmndlefbghoaaXpRoute
import Derived.WalkKit
import Derived.ProofKit
import Derived.OpenShut
import Derived.Below
import Derived.WalkLawsBesides
import Derived.Deep.QuietTactic
import Derived.BigQuiet
import Derived.Defers
import Derived.Recover
import Derived.Laws.Pointers
namespace Go.Proofs.Ytlpmndlefbghoaa
open Go.ChangeShapes Go.WideShapes Go.ChangeAt Go.RowKit
set_option linter.unusedVariables false
set_option linter.unusedSimpArgs false

/-- a cell written with what it holds -/
theorem set_same {w : World} {b i : Nat} {v : Value} (h : w.cell? ⟨b, i, none⟩ = some v) : w.setCell ⟨b, i, none⟩ v = w := by
  unfold World.cell? at h
  split at h
  · rename_i c e f hb
    have hc : c[i]? = some v := by simpa using h
    obtain ⟨hlt, hv⟩ := Array.getElem?_eq_some_iff.1 hc
    have hh : w.heap.modify b (fun | .cells c elem frozen => .cells (c.setIfInBounds i v) elem frozen | o => o) = w.heap := by
      apply Array.ext_getElem?
      intro k
      rw [Array.getElem?_modify]
      by_cases e : b = k
      · subst e
        simp only [if_true, hb, Option.map_some]
        congr 2
        apply Array.ext_getElem?
        intro m
        rw [Array.getElem?_setIfInBounds]
        by_cases e : i = m
        · subst e
          simp [hlt, hv]
        · rw [if_neg e]
      · rw [if_neg e]
    show ({ w with heap := w.heap.modify b (fun | .cells c elem frozen => .cells (c.setIfInBounds i v) elem frozen | o => o) } : World) = w
    rw [hh]
  · cases h

theorem Route_yes (a0 : Option Addr) (n0 c0 : Nat) (ro : List Int) (E k : Int) (a3 : Option Addr) (n3 c3 : Nat) (xs : List Int) (w : World) (h0 : Reads .i8 w a0 n0 ro) (l0 : n0 ≤ c0) (h3 : Reads .i64 w a3 n3 xs) (wE : (Lit.int .i64 E).wf = true) (wk : (Lit.int .i64 k).wf = true) (b0 : n0 * 8 ≤ 140737488355328) (hf : routeB ro E k xs = true) :
    Calls Try.prog 12 #[.slice a0 n0 c0, .int .i64 E, .int .i64 k, .slice a3 n3 c3] w fun e w' => (∃ ap cp aq cq, e = .returned (.tuple #[.slice ap k.toNat cp, .slice aq k.toNat cq, .int .i64 0]) ∧ Reads .i64 w' ap k.toNat (routeP ro k xs) ∧ Reads .i64 w' aq k.toNat (routeS ro k xs)) ∧ Below w.heap.size w w' := by
  have hmf : ∀ (fn : Fn) (first cap : Array Value) (w : World), (Instr.makeFunc fn first cap).run Try.prog w = .ok (.func fn first cap) w := fun _ _ _ _ => rfl
  have ko : Calls Try.prog 28 #[.slice a0 n0 c0, .int .i64 E, .int .i64 k, .slice a3 n3 c3] (w.alloc (.cells #[.int .i64 0] 28)) fun e W1 => ∃ ap cp aq cq, e = .returned (.tuple #[.slice ap k.toNat cp, .slice aq k.toNat cq]) ∧ (W1.cell? ⟨w.heap.size, 0, none⟩ = some (.int .i64 0) ∧ W1.frozen? ⟨w.heap.size, 0, none⟩ = false) ∧
      Hid (Reads .i64 W1 ap k.toNat (routeP ro k xs) ∧ Reads .i64 W1 aq k.toNat (routeS ro k xs) ∧ Below w.heap.size w W1) := by
    have bn := below_new (Below.refl w.heap.size w) (.cells #[.int .i64 0] 28)
    refine (route_yes a0 n0 c0 ro E k a3 n3 c3 xs _ (h0.below bn) l0 (h3.below bn) wE wk b0 hf).mono ?_
    rintro e W1 ⟨⟨ap, cp, aq, cq, rfl, hr, hr'⟩, hb⟩
    obtain ⟨c1, c2, c3⟩ := face_box hb
    exact ⟨ap, cp, aq, cq, rfl, ⟨c1, c2⟩, hr, hr', c3⟩
  obtain ⟨K, eK⟩ : ∃ K, k.toNat = K := ⟨_, rfl⟩
  rw [eK] at ko ⊢
  go_enter_defers Try.func12, Try.ntmps12
  go_wp2_with (go_at_call 28; refine ko.mono ?_; rintro e W1 ⟨ap, cp, aq, cq, rfl, ⟨c1, c2⟩, H⟩)
  refine leaves_cons (f := 27) (args := #[.pointer (some ⟨w.heap.size, 0, none⟩)]) (by simp) (by simp [go_sem]) ?_
  rw [set_same c1]
  refine (catch_idle27 ⟨w.heap.size, 0, none⟩ 0 _ c1 c2).mono ?_
  rintro e u' w'' ⟨rfl, rfl, rfl⟩
  obtain ⟨r1, r2, hB⟩ := H.out
  rw [set_same c1]
  have c3 := c1
  simp [Leaves, settle, results, Try.results12, go_sem, c3]
  exact ⟨⟨_, _, _, ⟨⟨rfl, rfl⟩, rfl⟩, r1, r2⟩, hB⟩

theorem Route_no (a0 : Option Addr) (n0 c0 : Nat) (ro : List Int) (E k : Int) (a3 : Option Addr) (n3 c3 : Nat) (xs : List Int) (w : World) (h0 : Reads .i8 w a0 n0 ro) (l0 : n0 ≤ c0) (h3 : Reads .i64 w a3 n3 xs) (wE : (Lit.int .i64 E).wf = true) (wk : (Lit.int .i64 k).wf = true) (b0 : n0 * 8 ≤ 140737488355328) (hf : routeB ro E k xs = false) :
    Calls Try.prog 12 #[.slice a0 n0 c0, .int .i64 E, .int .i64 k, .slice a3 n3 c3] w fun e w' => e = .returned (.tuple #[.slice none 0 0, .slice none 0 0, .int .i64 (routeE ro E k xs)]) ∧ Below w.heap.size w w' := by
  have hmf : ∀ (fn : Fn) (first cap : Array Value) (w : World), (Instr.makeFunc fn first cap).run Try.prog w = .ok (.func fn first cap) w := fun _ _ _ _ => rfl
  have ko : Calls Try.prog 28 #[.slice a0 n0 c0, .int .i64 E, .int .i64 k, .slice a3 n3 c3] (w.alloc (.cells #[.int .i64 0] 28)) fun e W1 => e = .panicked [{ v := .iface 28 (.int .i64 (routeE ro E k xs)), recovered := false }] ∧ (W1.cell? ⟨w.heap.size, 0, none⟩ = some (.int .i64 0) ∧ W1.frozen? ⟨w.heap.size, 0, none⟩ = false) ∧ Below w.heap.size w W1 := by
    have bn := below_new (Below.refl w.heap.size w) (.cells #[.int .i64 0] 28)
    refine (route_no a0 n0 c0 ro E k a3 n3 c3 xs _ (h0.below bn) l0 (h3.below bn) wE wk b0 hf).mono ?_
    rintro e W1 ⟨rfl, hb⟩
    obtain ⟨c1, c2, c3⟩ := face_box hb
    exact ⟨rfl, ⟨c1, c2⟩, c3⟩
  obtain ⟨D, eD⟩ : ∃ D, routeE ro E k xs = D := ⟨_, rfl⟩
  rw [eD] at ko ⊢
  go_enter_defers Try.func12, Try.ntmps12
  go_wp2_with (go_at_call 28; refine ko.mono ?_; rintro e W1 ⟨rfl, ⟨c1, c2⟩, hB⟩)
  refine leaves_cons (f := 27) (args := #[.pointer (some ⟨w.heap.size, 0, none⟩)]) (by simp) (by simp [go_sem]) ?_
  refine (catch_panic27 ⟨w.heap.size, 0, none⟩ 0 D [] _ c1 c2).mono ?_
  rintro e u' w'' ⟨rfl, rfl, rfl⟩
  have c3 : (W1.setCell ⟨w.heap.size, 0, none⟩ (.int .i64 D)).cell? ⟨w.heap.size, 0, none⟩ = some (.int .i64 D) := World.cell?_setCell_same _ _ _ c1
  have H' : Below w.heap.size w (W1.setCell ⟨w.heap.size, 0, none⟩ (.int .i64 D)) := hB.setCell (Nat.le_refl _) _
  generalize (W1.setCell ⟨w.heap.size, 0, none⟩ (.int .i64 D)) = W2 at c3 H' ⊢
  simp [Leaves, settle, results, Try.results12, go_sem, c3]
  exact H'

/-- what is told of a route: places, shares and the error -/
def rtP (ro : List Int) (E k : Int) (xs : List Int) : List Int := if routeB ro E k xs then routeP ro k xs else []
def rtS (ro : List Int) (E k : Int) (xs : List Int) : List Int := if routeB ro E k xs then routeS ro k xs else []

theorem Route_call (a0 : Option Addr) (n0 c0 : Nat) (ro : List Int) (E k : Int) (a3 : Option Addr) (n3 c3 : Nat) (xs : List Int) (w : World) (h0 : Reads .i8 w a0 n0 ro) (l0 : n0 ≤ c0) (h3 : Reads .i64 w a3 n3 xs) (wE : (Lit.int .i64 E).wf = true) (wk : (Lit.int .i64 k).wf = true) (b0 : n0 * 8 ≤ 140737488355328) :
    Calls Try.prog 12 #[.slice a0 n0 c0, .int .i64 E, .int .i64 k, .slice a3 n3 c3] w fun e w' => (∃ ap mp cp aq mq cq, e = .returned (.tuple #[.slice ap mp cp, .slice aq mq cq, .int .i64 (routeE ro E k xs)]) ∧ Reads .i64 w' ap mp (rtP ro E k xs) ∧ Reads .i64 w' aq mq (rtS ro E k xs)) ∧ Below w.heap.size w w' := by
  unfold rtP rtS
  cases hf : routeB ro E k xs with
  | true =>
    rw [routeE_yes hf]
    exact (Route_yes a0 n0 c0 ro E k a3 n3 c3 xs w h0 l0 h3 wE wk b0 hf).mono fun e w' ⟨⟨ap, cp, aq, cq, he, hr, hr'⟩, hb⟩ => ⟨⟨ap, _, cp, aq, _, cq, he, hr, hr'⟩, hb⟩
  | false => exact (Route_no a0 n0 c0 ro E k a3 n3 c3 xs w h0 l0 h3 wE wk b0 hf).mono fun e w' ⟨he, hb⟩ => ⟨⟨none, 0, 0, none, 0, 0, he, Reads.nil _ _, Reads.nil _ _⟩, hb⟩

end Go.Proofs.Ytlpmndlefbghoaa
