/- Which networks a row goes to, whatever comes: the contract of the document's call. -/
import Derived.Test.YtlpmndlefbghoaaRows
import Derived.Test.YtlpmndlefbghoaaView
import Derived.Test.YtlpmndlefbghoaaOwn
import Derived.Test.YtlpmndlefbghoaaDots
import Derived.Test.YtlpmndlefbghoaaMats
import Derived.Test.YtlpmndlefbghoaaSoft
import Derived.Test.YtlpmndlefbghoaaRanks
import Derived.Test.YtlpmndlefbghoaaXpNeed
import Derived.Test.YtlpmndlefbghoaaXpPlain
import Derived.Test.YtlpmndlefbghoaaXpMat
import Derived.Test.YtlpmndlefbghoaaXpRouteZ
import Derived.Test.YtlpmndlefbghoaaXpRouteF
import Derived.Test.YtlpmndlefbghoaaXpRefRoute
import Derived.WalkKit
import Derived.ProofKit
import Derived.OpenShut
import Derived.Below
import Derived.WalkLawsBesides
import Derived.Deep.QuietTactic
import Derived.BigQuiet
namespace Go.Proofs.Ytlpmndlefbghoaa
open Go.ChangeShapes Go.WideShapes Go.ChangeAt Go.RowKit
set_option linter.unusedVariables false
set_option linter.unusedSimpArgs false

theorem refRoute_range (a0 : Option Addr) (n0 c0 : Nat) (ro : List Int) (E k : Int) (a3 : Option Addr) (n3 c3 : Nat) (xs : List Int) (w : World) (h0 : Reads .i8 w a0 n0 ro) (l0 : n0 ≤ c0) (h3 : Reads .i64 w a3 n3 xs) (wE : (Lit.int .i64 E).wf = true) (wk : (Lit.int .i64 k).wf = true) (b0 : n0 * 8 ≤ 140737488355328) (hf : k < 1 ∨ E < k) :
    Calls Try.prog 13 #[.slice a0 n0 c0, .int .i64 E, .int .i64 k, .slice a3 n3 c3] w fun e w' => e = .returned (.tuple #[.slice none 0 0, .slice none 0 0, .int .i64 20]) ∧ w' = w := by
  by_cases h1 : k < 1
  · go_enter Try.func13, Try.ntmps13
    go_wp2
    refine bodyPost_ret (by simp [results, Try.results13]; rfl) rfl ?_
    exact ⟨rfl, rfl⟩
  · have h2 : E < k := by omega
    clear hf
    go_enter Try.func13, Try.ntmps13
    go_wp2
    refine bodyPost_ret (by simp [results, Try.results13]; rfl) rfl ?_
    exact ⟨rfl, rfl⟩

theorem refRoute_shape (a0 : Option Addr) (n0 c0 : Nat) (ro : List Int) (E k : Int) (a3 : Option Addr) (n3 c3 : Nat) (xs : List Int) (w : World) (h0 : Reads .i8 w a0 n0 ro) (l0 : n0 ≤ c0) (h3 : Reads .i64 w a3 n3 xs) (wE : (Lit.int .i64 E).wf = true) (wk : (Lit.int .i64 k).wf = true) (b0 : n0 * 8 ≤ 140737488355328) (h1 : ¬ k < 1) (h2 : ¬ E < k) (f1 : fitB n0 E n3 = false) :
    Calls Try.prog 13 #[.slice a0 n0 c0, .int .i64 E, .int .i64 k, .slice a3 n3 c3] w fun e w' => e = .returned (.tuple #[.slice none 0 0, .slice none 0 0, .int .i64 21]) ∧ w' = w := by
  have ku := refMat_no a0 n0 c0 E a3 n3 c3 w h0.max h3.max wE f1
  go_enter Try.func13, Try.ntmps13
  go_wp2_with (go_at_call 19; refine ku.mono ?_; rintro e w2 ⟨rfl, hq⟩; obtain rfl := hq.symm)
  refine bodyPost_ret (by simp [results, Try.results13]; rfl) rfl ?_
  exact ⟨rfl, rfl⟩

theorem refRoute_no (a0 : Option Addr) (n0 c0 : Nat) (ro : List Int) (E k : Int) (a3 : Option Addr) (n3 c3 : Nat) (xs : List Int) (w : World) (h0 : Reads .i8 w a0 n0 ro) (l0 : n0 ≤ c0) (h3 : Reads .i64 w a3 n3 xs) (wE : (Lit.int .i64 E).wf = true) (wk : (Lit.int .i64 k).wf = true) (b0 : n0 * 8 ≤ 140737488355328) (hf : routeB ro E k xs = false) :
    Calls Try.prog 13 #[.slice a0 n0 c0, .int .i64 E, .int .i64 k, .slice a3 n3 c3] w fun e w' => e = .returned (.tuple #[.slice none 0 0, .slice none 0 0, .int .i64 (routeE ro E k xs)]) ∧ Below w.heap.size w w' := by
  unfold routeE
  by_cases h1 : k < 1 ∨ E < k
  · rw [if_pos h1]
    exact (refRoute_range a0 n0 c0 ro E k a3 n3 c3 xs w h0 l0 h3 wE wk b0 h1).mono fun e w' ⟨he, hw⟩ => ⟨he, hw ▸ Below.refl _ _⟩
  · rw [if_neg h1]
    have f1 : fitB ro.length E xs.length = false := by
      unfold routeB at hf
      rw [decide_eq_true (by omega : 1 ≤ k), decide_eq_true (by omega : k ≤ E)] at hf
      simpa using hf
    simp only [f1, Bool.false_eq_true, if_false]
    rw [h0.len, h3.len] at f1
    exact (refRoute_shape a0 n0 c0 ro E k a3 n3 c3 xs w h0 l0 h3 wE wk b0 (by omega) (by omega) f1).mono fun e w' ⟨he, hw⟩ => ⟨he, hw ▸ Below.refl _ _⟩

theorem refRoute_call (a0 : Option Addr) (n0 c0 : Nat) (ro : List Int) (E k : Int) (a3 : Option Addr) (n3 c3 : Nat) (xs : List Int) (w : World) (h0 : Reads .i8 w a0 n0 ro) (l0 : n0 ≤ c0) (h3 : Reads .i64 w a3 n3 xs) (wE : (Lit.int .i64 E).wf = true) (wk : (Lit.int .i64 k).wf = true) (b0 : n0 * 8 ≤ 140737488355328) :
    Calls Try.prog 13 #[.slice a0 n0 c0, .int .i64 E, .int .i64 k, .slice a3 n3 c3] w fun e w' => (∃ ap mp cp aq mq cq, e = .returned (.tuple #[.slice ap mp cp, .slice aq mq cq, .int .i64 (routeE ro E k xs)]) ∧ Reads .i64 w' ap mp (rtP ro E k xs) ∧ Reads .i64 w' aq mq (rtS ro E k xs)) ∧ Below w.heap.size w w' := by
  unfold rtP rtS
  cases hf : routeB ro E k xs with
  | true =>
    rw [routeE_yes hf]
    exact (refRoute_yes a0 n0 c0 ro E k a3 n3 c3 xs w h0 l0 h3 wE wk b0 hf).mono fun e w' ⟨⟨ap, cp, aq, cq, he, hr, hr'⟩, hb⟩ => ⟨⟨ap, _, cp, aq, _, cq, he, hr, hr'⟩, hb⟩
  | false => exact (refRoute_no a0 n0 c0 ro E k a3 n3 c3 xs w h0 l0 h3 wE wk b0 hf).mono fun e w' ⟨he, hb⟩ => ⟨⟨none, 0, 0, none, 0, 0, he, Reads.nil _ _, Reads.nil _ _⟩, hb⟩

end Go.Proofs.Ytlpmndlefbghoaa
