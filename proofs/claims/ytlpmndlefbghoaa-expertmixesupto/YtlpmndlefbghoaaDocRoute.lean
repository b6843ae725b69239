/- Texts put together: XpRefRoute, XpRefRouteN. -/
import Derived.Test.YtlpmndlefbghoaaRows
import Derived.Test.YtlpmndlefbghoaaView
import Derived.Test.YtlpmndlefbghoaaOwn
import Derived.Test.YtlpmndlefbghoaaSat
import Derived.Test.YtlpmndlefbghoaaExp
import Derived.Test.YtlpmndlefbghoaaSteps
import Derived.Test.YtlpmndlefbghoaaFitZ
import Derived.Test.YtlpmndlefbghoaaMats
import Derived.Test.YtlpmndlefbghoaaSoft
import Derived.Test.YtlpmndlefbghoaaSoftRef
import Derived.Test.YtlpmndlefbghoaaRanks
import Derived.Test.YtlpmndlefbghoaaRank
import Derived.Test.YtlpmndlefbghoaaTop
import Derived.Test.YtlpmndlefbghoaaRefTop
import Derived.Test.YtlpmndlefbghoaaHeld
import Derived.Test.YtlpmndlefbghoaaXpNeed
import Derived.Test.YtlpmndlefbghoaaAskZ
import Derived.Test.YtlpmndlefbghoaaXpRouteZ
import Derived.Test.YtlpmndlefbghoaaXpRouteF
import Derived.WalkKit
import Derived.ProofKit
import Derived.OpenShut
import Derived.Below
import Derived.WalkLawsBesides
import Derived.Deep.QuietTactic
import Derived.BigQuiet
namespace Go.Proofs.Ytlpmndlefbghoaa

/- Which networks a row goes to, and with what shares: the contract of the document's call. -/
section
open Go.ChangeShapes Go.WideShapes Go.ChangeAt Go.RowKit
set_option linter.unusedVariables false
set_option linter.unusedSimpArgs false

set_option maxHeartbeats 1000000 in
theorem refRoute_yes (a0 : Option Addr) (n0 c0 : Nat) (ro : List Int) (E k : Int) (a3 : Option Addr) (n3 c3 : Nat) (xs : List Int) (w : World) (h0 : Reads .i8 w a0 n0 ro) (l0 : n0 ≤ c0) (h3 : Reads .i64 w a3 n3 xs) (wE : (Lit.int .i64 E).wf = true) (wk : (Lit.int .i64 k).wf = true) (b0 : n0 * 8 ≤ 140737488355328) (hf : routeB ro E k xs = true) :
    Calls Try.prog 13 #[.slice a0 n0 c0, .int .i64 E, .int .i64 k, .slice a3 n3 c3] w fun e w' => (∃ ap cp aq cq, e = .returned (.tuple #[.slice ap k.toNat cp, .slice aq k.toNat cq, .int .i64 0]) ∧ Reads .i64 w' ap k.toNat (routeP ro k xs) ∧ Reads .i64 w' aq k.toNat (routeS ro k xs)) ∧ Below w.heap.size w w' := by
  obtain ⟨i0, hi, hz0, hz1, hz2⟩ := info_parts info2
  have hb' : (decide (1 ≤ k) && decide (k ≤ E) && fitB ro.length E xs.length) = true := hf
  simp only [Bool.and_eq_true, decide_eq_true_eq] at hb'
  obtain ⟨⟨hk1, hk2⟩, f1⟩ := hb'
  have hlt := fun j (h : j < k.toNat) => plc_lt hf h
  have hat := fun j (h : j < k.toNat) => routeP_at hf h
  rw [h0.len, h3.len] at f1
  have eE := (fitB_yes f1).2.2
  have hle := Nat.div_le_self n0 n3
  have hm3 := h3.max
  obtain ⟨R, eR⟩ : ∃ R, n0 / n3 = R := ⟨_, rfl⟩
  have em : (matL ro xs).length = R := by rw [matL_length, h0.len, h3.len, eR]
  obtain ⟨K, eK⟩ : ∃ K, k.toNat = K := ⟨_, rfl⟩
  obtain rfl : k = (K : Int) := by omega
  have eKR : min (K : Int).toNat R = K := by omega
  have KR : K ≤ R := by omega
  have ekn : (K : Int).toNat = K := rfl
  have ku := refMat_yes a0 n0 c0 ro E a3 n3 c3 xs w h0 l0 h3 f1 b0
  rw [eR] at ku hle eE
  have kt := fun (W : World) p q (h : Reads .i64 W p R (matL ro xs)) => refTop_call p R q (matL ro xs) (K : Int) W h (by omega)
  have hat' : ∀ j, j < K → (pickZ (matL ro xs) (K : Int)).getD j 0 = ((plc ro xs j : Nat) : Int) := fun j h => hat j (by omega)
  have hlt' : ∀ j, j < K → plc ro xs j < R := fun j h => by have := hlt j (by omega); omega
  show Calls _ _ _ _ (fun e w' => (∃ ap cp aq cq, e = .returned (.tuple #[.slice ap (K : Int).toNat cp, .slice aq (K : Int).toNat cq, .int .i64 0]) ∧ Reads .i64 w' ap (K : Int).toNat (pickZ (matL ro xs) (K : Int)) ∧ Reads .i64 w' aq (K : Int).toNat (softZ (chosenL ro (K : Int).toNat xs) (K : Int).toNat)) ∧ Below w.heap.size w w')
  rw [eKR] at kt
  rw [ekn]
  have Em := hidden_ (And.intro em eKR)
  have hn1 : ¬ (K : Int) < 1 := by omega
  have hn2 : ¬ E < (K : Int) := by omega
  clear hat hlt hf f1 eR eK em eKR eE ekn
  go_enter Try.func13, Try.ntmps13
  go_wp2_with (first
    | (go_at_call 19; refine ku.mono ?_; rintro e w1 ⟨⟨a1, c1, rfl, hr1, -⟩, hb1⟩)
    | (go_at_call 29; refine (kt w1 _ _ hr1).mono ?_; rintro e w2 ⟨⟨ap, cp, rfl, hr2, -, -⟩, hb2⟩; replace hr1 := hr1.below hb2; have hbw := below_then hb1 hb2; clear hb1 hb2))
  clear ku kt
  go_loopw [14, 15] (fun v i wr => ∃ j : Nat, j ≤ K ∧ i = .int .i64 j ∧ Below w2.heap.size w2 wr ∧ wr.ownsRow w2.heap.size 2 1 v j (gath (fun i => (matL ro xs).getD (plc ro xs i) 0) .i64 j)) (fun _ i _ => K - (intOf i).toNat)
  case atStart => exact ⟨0, Nat.zero_le _, rfl, Below.refl _ _, World.ownsRow_nil _ _ _ _⟩
  case round =>
    obtain ⟨j, hj, rfl, hbr, ho⟩ := hrel
    by_cases hlt : j < K
    · obtain ⟨x, rfl⟩ := hr2.some_ (by omega)
      obtain ⟨y, rfl⟩ := hr1.some_ (by omega)
      have cx := (hr2.below hbr).cell x rfl j hlt
      rw [hat' j hlt] at cx
      have pj := hlt' j hlt
      have cy := (hr1.below hbr).cell y rfl (plc ro xs j) pj
      have hsz := hbr.size
      obtain ⟨p, ep⟩ : ∃ p, plc ro xs j = p := ⟨_, rfl⟩
      obtain ⟨Z, eZ⟩ : ∃ Z, (matL ro xs).getD (plc ro xs j) 0 = Z := ⟨_, rfl⟩
      have Ev : Hid (Z = (matL ro xs).getD (plc ro xs j) 0) := eZ.symm
      rw [eZ] at cy
      rw [ep] at cx cy pj
      clear eZ ep hr1 hr2 hat' hlt'
      go_wp2_with (at_builtin; refine wpList_append_own _ rfl (.tmp 42) (.tmp 50) 24 rfl w2.heap.size 2 i0 (.int .i64 0) 1 8 Try.underlying24 hi hz0 hz1 hz2 rfl (by decide) _ _ _ rfl (World.ownsRow.alloc (w := wr) ho _) ⟨_, 0, none⟩ 1 1 [.int .i64 Z] rfl rfl (one_new _ _ _) (one_oneCell _ _) (by unfold maxLen; omega) (by omega) (by simp; omega) ?_; intro v' w1' ho' hg _)
      go_roundw
      case rel => exact ⟨j + 1, by omega, by go_num, append_step (wr := wr) hsz Ev.out hbr ho ho' hg⟩
      case measure => simp [intOf]; omega
    · have e : j = K := by omega
      subst e
      have fin := own_reads (zs := chosenL ro j xs) ho (by simp [chosenL]) (fun z hz => by
        obtain ⟨y, _, rfl⟩ := List.mem_map.1 hz
        have := matL_bounds ro xs (plc ro xs y)
        exact WalkArith.wf_i64 ⟨by omega, by omega⟩) (fun i hi => by rw [gath_at _ _ _ _ hi]; simp [chosenL, List.getD, hi])
      obtain ⟨a3', c3', rfl, hr3⟩ := fin
      have ks := refSoft_call a3' j c3' (chosenL ro j xs) wr hr3 (by omega)
      replace hr2 := hr2.below hbr
      have hbw' := below_then hbw hbr
      clear ho hr3
      go_wp2_with (go_at_call 30; refine ks.mono ?_; rintro e w4 ⟨⟨aq, cc, rfl, hr4⟩, hb4⟩)
      refine bodyPost_ret (by simp [results, Try.results13]; rfl) rfl ?_
      exact ⟨⟨_, _, _, _, rfl, hr2.below hb4, hr4⟩, below_then hbw' hb4⟩
end

/- Which networks a row goes to, whatever comes: the contract of the document's call. -/
section
open Go.ChangeShapes Go.WideShapes Go.ChangeAt Go.RowKit
set_option linter.unusedVariables false
set_option linter.unusedSimpArgs false

theorem refRoute_range (a0 : Option Addr) (n0 c0 : Nat) (ro : List Int) (E k : Int) (a3 : Option Addr) (n3 c3 : Nat) (xs : List Int) (w : World) (h0 : Reads .i8 w a0 n0 ro) (l0 : n0 ≤ c0) (h3 : Reads .i64 w a3 n3 xs) (wE : (Lit.int .i64 E).wf = true) (wk : (Lit.int .i64 k).wf = true) (b0 : n0 * 8 ≤ 140737488355328) (hf : k < 1 ∨ E < k) :
    Calls Try.prog 13 #[.slice a0 n0 c0, .int .i64 E, .int .i64 k, .slice a3 n3 c3] w fun e w' => e = .returned (.tuple #[.slice none 0 0, .slice none 0 0, .int .i64 20]) ∧ w' = w := by
  by_cases h1 : k < 1
  · go_enter Try.func13, Try.ntmps13
    go_wp2
    refine bodyPost_ret (by simp [results, Try.results13]; rfl) rfl ?_
    exact ⟨rfl, rfl⟩
  · have h2 : E < k := by omega
    clear hf
    go_enter Try.func13, Try.ntmps13
    go_wp2
    refine bodyPost_ret (by simp [results, Try.results13]; rfl) rfl ?_
    exact ⟨rfl, rfl⟩

theorem refRoute_shape (a0 : Option Addr) (n0 c0 : Nat) (ro : List Int) (E k : Int) (a3 : Option Addr) (n3 c3 : Nat) (xs : List Int) (w : World) (h0 : Reads .i8 w a0 n0 ro) (l0 : n0 ≤ c0) (h3 : Reads .i64 w a3 n3 xs) (wE : (Lit.int .i64 E).wf = true) (wk : (Lit.int .i64 k).wf = true) (b0 : n0 * 8 ≤ 140737488355328) (h1 : ¬ k < 1) (h2 : ¬ E < k) (f1 : fitB n0 E n3 = false) :
    Calls Try.prog 13 #[.slice a0 n0 c0, .int .i64 E, .int .i64 k, .slice a3 n3 c3] w fun e w' => e = .returned (.tuple #[.slice none 0 0, .slice none 0 0, .int .i64 21]) ∧ w' = w := by
  have ku := refMat_no a0 n0 c0 E a3 n3 c3 w h0.max h3.max wE f1
  go_enter Try.func13, Try.ntmps13
  go_wp2_with (go_at_call 19; refine ku.mono ?_; rintro e w2 ⟨rfl, hq⟩; obtain rfl := hq.symm)
  refine bodyPost_ret (by simp [results, Try.results13]; rfl) rfl ?_
  exact ⟨rfl, rfl⟩

theorem refRoute_no (a0 : Option Addr) (n0 c0 : Nat) (ro : List Int) (E k : Int) (a3 : Option Addr) (n3 c3 : Nat) (xs : List Int) (w : World) (h0 : Reads .i8 w a0 n0 ro) (l0 : n0 ≤ c0) (h3 : Reads .i64 w a3 n3 xs) (wE : (Lit.int .i64 E).wf = true) (wk : (Lit.int .i64 k).wf = true) (b0 : n0 * 8 ≤ 140737488355328) (hf : routeB ro E k xs = false) :
    Calls Try.prog 13 #[.slice a0 n0 c0, .int .i64 E, .int .i64 k, .slice a3 n3 c3] w fun e w' => e = .returned (.tuple #[.slice none 0 0, .slice none 0 0, .int .i64 (routeE ro E k xs)]) ∧ Below w.heap.size w w' := by
  unfold routeE
  by_cases h1 : k < 1 ∨ E < k
  · rw [if_pos h1]
    exact (refRoute_range a0 n0 c0 ro E k a3 n3 c3 xs w h0 l0 h3 wE wk b0 h1).mono fun e w' ⟨he, hw⟩ => ⟨he, hw ▸ Below.refl _ _⟩
  · rw [if_neg h1]
    have f1 : fitB ro.length E xs.length = false := by
      unfold routeB at hf
      rw [decide_eq_true (by omega : 1 ≤ k), decide_eq_true (by omega : k ≤ E)] at hf
      simpa using hf
    simp only [f1, Bool.false_eq_true, if_false]
    rw [h0.len, h3.len] at f1
    exact (refRoute_shape a0 n0 c0 ro E k a3 n3 c3 xs w h0 l0 h3 wE wk b0 (by omega) (by omega) f1).mono fun e w' ⟨he, hw⟩ => ⟨he, hw ▸ Below.refl _ _⟩

theorem refRoute_call (a0 : Option Addr) (n0 c0 : Nat) (ro : List Int) (E k : Int) (a3 : Option Addr) (n3 c3 : Nat) (xs : List Int) (w : World) (h0 : Reads .i8 w a0 n0 ro) (l0 : n0 ≤ c0) (h3 : Reads .i64 w a3 n3 xs) (wE : (Lit.int .i64 E).wf = true) (wk : (Lit.int .i64 k).wf = true) (b0 : n0 * 8 ≤ 140737488355328) :
    Calls Try.prog 13 #[.slice a0 n0 c0, .int .i64 E, .int .i64 k, .slice a3 n3 c3] w fun e w' => (∃ ap mp cp aq mq cq, e = .returned (.tuple #[.slice ap mp cp, .slice aq mq cq, .int .i64 (routeE ro E k xs)]) ∧ Reads .i64 w' ap mp (rtP ro E k xs) ∧ Reads .i64 w' aq mq (rtS ro E k xs)) ∧ Below w.heap.size w w' := by
  unfold rtP rtS
  cases hf : routeB ro E k xs with
  | true =>
    rw [routeE_yes hf]
    exact (refRoute_yes a0 n0 c0 ro E k a3 n3 c3 xs w h0 l0 h3 wE wk b0 hf).mono fun e w' ⟨⟨ap, cp, aq, cq, he, hr, hr'⟩, hb⟩ => ⟨⟨ap, _, cp, aq, _, cq, he, hr, hr'⟩, hb⟩
  | false => exact (refRoute_no a0 n0 c0 ro E k a3 n3 c3 xs w h0 l0 h3 wE wk b0 hf).mono fun e w' ⟨he, hb⟩ => ⟨⟨none, 0, 0, none, 0, 0, he, Reads.nil _ _, Reads.nil _ _⟩, hb⟩
end

end Go.Proofs.Ytlpmndlefbghoaa
