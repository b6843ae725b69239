/- Texts put together: XpRefMix1, XpRefMix2, XpRefMixF. -/
import Derived.Test.YtlpmndlefbghoaaRows
import Derived.Test.YtlpmndlefbghoaaView
import Derived.Test.YtlpmndlefbghoaaOwn
import Derived.Test.YtlpmndlefbghoaaSat
import Derived.Test.YtlpmndlefbghoaaAdds
import Derived.Test.YtlpmndlefbghoaaExp
import Derived.Test.YtlpmndlefbghoaaFitZ
import Derived.Test.YtlpmndlefbghoaaMats
import Derived.Test.YtlpmndlefbghoaaSoft
import Derived.Test.YtlpmndlefbghoaaMean
import Derived.Test.YtlpmndlefbghoaaGrids
import Derived.Test.YtlpmndlefbghoaaRanks
import Derived.Test.YtlpmndlefbghoaaInvIn
import Derived.Test.YtlpmndlefbghoaaHeld
import Derived.Test.YtlpmndlefbghoaaXpNeed
import Derived.Test.YtlpmndlefbghoaaAskZ
import Derived.Test.YtlpmndlefbghoaaOneZ
import Derived.Test.YtlpmndlefbghoaaXpRouteZ
import Derived.Test.YtlpmndlefbghoaaXpRoute
import Derived.Test.YtlpmndlefbghoaaXpRouteF
import Derived.Test.YtlpmndlefbghoaaXpMixZ
import Derived.Test.YtlpmndlefbghoaaXpBlend
import Derived.Test.YtlpmndlefbghoaaXpGridB
import Derived.Test.YtlpmndlefbghoaaRegZ
import Derived.Test.YtlpmndlefbghoaaSatRef
import Derived.Test.YtlpmndlefbghoaaSteps
import Derived.Test.YtlpmndlefbghoaaXpRefOne
import Derived.Test.YtlpmndlefbghoaaDocRoute
import Derived.Test.YtlpmndlefbghoaaXpRegR
import Derived.WalkKit
import Derived.ProofKit
import Derived.OpenShut
import Derived.Below
import Derived.WalkLawsBesides
import Derived.Deep.QuietTactic
import Derived.BigQuiet
import Derived.Orders
import Derived.Shelf.Abstract
namespace Go.Proofs.Ytlpmndlefbghoaa

/- What networks make of a row: the arms of the document's call but the last. -/
section
open Go.ChangeShapes Go.WideShapes Go.ChangeAt Go.RowKit
set_option linter.unusedVariables false
set_option linter.unusedSimpArgs false

theorem refMix_shape (a0 : Option Addr) (n0 c0 : Nat) (ro : List Int) (a1 : Option Addr) (n c1 : Nat) (A1 : Nat → Option Addr) (C1 : Nat → Nat) (U : Nat → List Int) (a2 : Option Addr) (m c2 : Nat) (A2 : Nat → Option Addr) (C2 : Nat → Nat) (D : Nat → List Int) (h k : Int) (a5 : Option Addr) (n5 c5 : Nat) (xs : List Int) (w : World) (h0 : Reads .i8 w a0 n0 ro) (l0 : n0 ≤ c0) (g1 : Nets w a1 n A1 C1 U) (g2 : Nets w a2 m A2 C2 D) (h5 : Reads .i64 w a5 n5 xs) (wh : (Lit.int .i64 h).wf = true) (wk : (Lit.int .i64 k).wf = true) (b0 : n0 * 8 ≤ 140737488355328) (b1 : n * 24 ≤ 140737488351232) (b5 : n5 * 8 ≤ 140737488355328) (hf : n = 0 ∨ n ≠ m) :
    Calls Try.prog 11 #[.slice a0 n0 c0, .slice a1 n c1, .slice a2 m c2, .int .i64 h, .int .i64 k, .slice a5 n5 c5] w fun e w' => e = .returned (.tuple #[.slice none 0 0, .int .i64 21]) ∧ w' = w := by
  have hm1 := g1.grid.max
  have hm2 := g2.grid.max
  by_cases hn : n = 0
  · subst hn
    go_enter Try.func11, Try.ntmps11
    go_wp2
    go_ret2
    exact ⟨rfl, rfl⟩
  · have p1 : ((n : Int) == 0) = false := by simp; omega
    have p2 : ((n : Int) == (m : Int)) = false := by simp; omega
    go_enter Try.func11, Try.ntmps11
    go_wp2
    go_ret2
    exact ⟨rfl, rfl⟩

set_option maxHeartbeats 2000000 in
theorem refMix_one (a0 : Option Addr) (n0 c0 : Nat) (ro : List Int) (a1 : Option Addr) (n c1 : Nat) (A1 : Nat → Option Addr) (C1 : Nat → Nat) (U : Nat → List Int) (a2 : Option Addr) (m c2 : Nat) (A2 : Nat → Option Addr) (C2 : Nat → Nat) (D : Nat → List Int) (h k : Int) (a5 : Option Addr) (n5 c5 : Nat) (xs : List Int) (w : World) (h0 : Reads .i8 w a0 n0 ro) (l0 : n0 ≤ c0) (g1 : Nets w a1 n A1 C1 U) (g2 : Nets w a2 m A2 C2 D) (h5 : Reads .i64 w a5 n5 xs) (wh : (Lit.int .i64 h).wf = true) (wk : (Lit.int .i64 k).wf = true) (b0 : n0 * 8 ≤ 140737488355328) (b1 : n * 24 ≤ 140737488351232) (b5 : n5 * 8 ≤ 140737488355328) (hn : n = 1) (hm : m = 1) :
    Calls Try.prog 11 #[.slice a0 n0 c0, .slice a1 n c1, .slice a2 m c2, .int .i64 h, .int .i64 k, .slice a5 n5 c5] w fun e w' => (∃ a j c, e = .returned (.tuple #[.slice a j c, .int .i64 (if oneB (U 0) (D 0) h xs then 0 else 21)]) ∧ Reads .i64 w' a j (if oneB (U 0) (D 0) h xs then oneL (U 0) (D 0) xs else [])) ∧ Below w.heap.size w w' := by
  subst hn
  subst hm
  obtain ⟨x, rfl⟩ := g1.grid.some_ (by omega)
  obtain ⟨y, rfl⟩ := g2.grid.some_ (by omega)
  have cx := fun (W : World) (hb : Below w.heap.size w W) => (g1.grid.below hb).cell x rfl 0 (by omega)
  have cy := fun (W : World) (hb : Below w.heap.size w W) => (g2.grid.below hb).cell y rfl 0 (by omega)
  simp only [Addr.add_zero'] at cx cy
  have ko := fun (W : World) (hb : Below w.heap.size w W) => refOne_call (A1 0) (U 0).length (C1 0) (U 0) (A2 0) (D 0).length (C2 0) (D 0) h a5 n5 c5 xs W ((g1.grid.row 0 (by omega)).below hb) (g1.cap 0 (by omega)) ((g2.grid.row 0 (by omega)).below hb) (g2.cap 0 (by omega)) (h5.below hb) wh (g1.bnd 0 (by omega)) (g2.bnd 0 (by omega))
  obtain ⟨EE, eE⟩ : ∃ EE, (if oneB (U 0) (D 0) h xs then (0 : Int) else 21) = EE := ⟨_, rfl⟩
  obtain ⟨O, eO⟩ : ∃ O, (if oneB (U 0) (D 0) h xs then oneL (U 0) (D 0) xs else []) = O := ⟨_, rfl⟩
  rw [eE, eO] at ko ⊢
  clear eE eO
  go_enter Try.func11, Try.ntmps11
  go_wp2
  refine ro_region x y 1 c1 c2 (U 0).length (C1 0) (D 0).length (C2 0) n5 c5 (A1 0) (A2 0) a5 h O EE (fun W => Below w.heap.size w W) (by kernel_rfl) rfl ⟨_, rfl, rfl, rfl, rfl, by kernel_rfl⟩ ⟨_, rfl, rfl, rfl, rfl, by kernel_rfl⟩ ⟨_, rfl, rfl, rfl, rfl, by kernel_rfl⟩ ⟨_, rfl, rfl, rfl, rfl, by kernel_rfl⟩ ⟨_, rfl, rfl, rfl, rfl, by kernel_rfl⟩ ⟨_, rfl, rfl, rfl, rfl, by kernel_rfl⟩ ⟨_, rfl, rfl, rfl, rfl, by kernel_rfl⟩ ⟨_, rfl, rfl, rfl, rfl, by kernel_rfl⟩ ⟨_, rfl, rfl, rfl, rfl, by kernel_rfl⟩ ⟨_, rfl, rfl, rfl, rfl, by kernel_rfl⟩ ⟨_, rfl, rfl, rfl, rfl, by kernel_rfl⟩ ⟨_, rfl, rfl, rfl, rfl, by kernel_rfl⟩ ⟨_, rfl, rfl, rfl, rfl, by kernel_rfl⟩ (Below.refl _ _).drew (run_index23z _ _ _ (by omega)) (fun W hb => run_load22 (cx W hb)) (run_index23z _ _ _ (by omega)) (fun W hb => run_load22 (cy W hb)) (fun W hb => (ko W hb).mono fun e w' ⟨⟨b, bn, bc, q1, q2⟩, q5⟩ => ⟨b, bn, bc, q1, q2, q5, below_then hb q5⟩) rfl rfl rfl rfl (Nat.le_of_ble_eq_true rfl) ?_
  intro a W9 hs hd hkp hS9 hval
  have e13 : a.tmps.getD 13 undef = .int .i64 EE := hval 12 13 (by decide) rfl
  obtain ⟨b9, n9, c9, e12, f12⟩ := hval 11 12 (by decide) rfl
  have ep := frame_puts [36, 37, 38, 39, 40, 41, 42, 43, 44, 45, 46, 12, 13] hs hd (fun s h => hkp s (fun i hi e => h (by
    rcases (show i = 0 ∨ i = 1 ∨ i = 2 ∨ i = 3 ∨ i = 4 ∨ i = 5 ∨ i = 6 ∨ i = 7 ∨ i = 8 ∨ i = 9 ∨ i = 10 ∨ i = 11 ∨ i = 12 by omega) with rfl | rfl | rfl | rfl | rfl | rfl | rfl | rfl | rfl | rfl | rfl | rfl | rfl <;> (simp only [roD, Option.some.injEq] at e; subst e; simp))))
  simp only [List.foldl] at ep
  rw [e13] at ep
  rw [e12] at ep
  have H9 := hidden_ hS9
  clear hs hd hkp hval hS9 e13 e12
  generalize a.tmps.getD 36 undef = g36 at ep
  generalize a.tmps.getD 37 undef = g37 at ep
  generalize a.tmps.getD 38 undef = g38 at ep
  generalize a.tmps.getD 39 undef = g39 at ep
  generalize a.tmps.getD 40 undef = g40 at ep
  generalize a.tmps.getD 41 undef = g41 at ep
  generalize a.tmps.getD 42 undef = g42 at ep
  generalize a.tmps.getD 43 undef = g43 at ep
  generalize a.tmps.getD 44 undef = g44 at ep
  generalize a.tmps.getD 45 undef = g45 at ep
  generalize a.tmps.getD 46 undef = g46 at ep
  simp only [Act.put, List.setIfInBounds_toArray, List.set_cons_succ, List.set_cons_zero] at ep
  subst ep
  go_wp2
  go_ret2
  exact ⟨⟨_, _, _, rfl, f12⟩, H9.out⟩

theorem refMix_route_no (a0 : Option Addr) (n0 c0 : Nat) (ro : List Int) (a1 : Option Addr) (n c1 : Nat) (A1 : Nat → Option Addr) (C1 : Nat → Nat) (U : Nat → List Int) (a2 : Option Addr) (m c2 : Nat) (A2 : Nat → Option Addr) (C2 : Nat → Nat) (D : Nat → List Int) (h k : Int) (a5 : Option Addr) (n5 c5 : Nat) (xs : List Int) (w : World) (h0 : Reads .i8 w a0 n0 ro) (l0 : n0 ≤ c0) (g1 : Nets w a1 n A1 C1 U) (g2 : Nets w a2 m A2 C2 D) (h5 : Reads .i64 w a5 n5 xs) (wh : (Lit.int .i64 h).wf = true) (wk : (Lit.int .i64 k).wf = true) (b0 : n0 * 8 ≤ 140737488355328) (b1 : n * 24 ≤ 140737488351232) (b5 : n5 * 8 ≤ 140737488355328) (hn : 1 < n) (hm : n = m) (hf : routeB ro n k xs = false) :
    Calls Try.prog 11 #[.slice a0 n0 c0, .slice a1 n c1, .slice a2 m c2, .int .i64 h, .int .i64 k, .slice a5 n5 c5] w fun e w' => e = .returned (.tuple #[.slice none 0 0, .int .i64 (routeE ro n k xs)]) ∧ Below w.heap.size w w' := by
  subst hm
  have hm1 := g1.grid.max
  have p1 : ((n : Int) == 0) = false := by simp; omega
  have p2 : ((n : Int) == 1) = false := by simp; omega
  have kr := refRoute_no a0 n0 c0 ro n k a5 n5 c5 xs w h0 l0 h5 (WalkArith.wf_i64 ⟨by omega, by omega⟩) wk b0 hf
  have hne := routeE_ne hf
  generalize routeE ro n k xs = E at kr hne ⊢
  have p3 : (E == 0) = false := by simp [hne]
  go_enter Try.func11, Try.ntmps11
  go_wp2_with (go_at_call 13; refine kr.mono ?_; rintro e w' ⟨rfl, hB⟩)
  go_ret2
  exact ⟨rfl, hB⟩
end

/- What several networks make of a row: the contract of the document's call. -/
section
open Go.ChangeShapes Go.WideShapes Go.ChangeAt Go.RowKit
set_option linter.unusedVariables false
set_option linter.unusedSimpArgs false

theorem made_zeros (n j : Nat) (hj : j < n) : ((madeCells (Value.int .i64 0).cells (n * 1)).toList)[j]? = some (.int .i64 0) := by
  rw [Nat.mul_one]
  simp [madeCells, Value.cells, hj, Nat.mod_one]

theorem wrap_in {z : Int} (h0 : -9223372036854775808 ≤ z) (h1 : z ≤ 9223372036854775807) : IntKind.i64.wrap z = z := by
  simp [IntKind.wrap, IntKind.signed, IntKind.bits]
  omega
theorem run_mul2 (x y z : Int) (e : x * y = z) (h0 : -9223372036854775808 ≤ z) (h1 : z ≤ 9223372036854775807) (w : World) : (binOp .mul 2 (.int .i64 x) (.int .i64 y)).run Try.prog w = .ok (.int .i64 z) w := by
  have := wrap_in h0 h1
  go_simp

theorem own_drew {w : World} {B : Nat} {e : TypeId} {v : Value} {n : Nat} {xs : List Value} (h : w.ownsRow B e 1 v n xs) : w.drew.ownsRow B e 1 v n xs := own_below h (Below.refl _ _).drew

set_option maxHeartbeats 4000000 in
set_option maxRecDepth 20000 in
theorem refMix_rest_no (a0 : Option Addr) (n0 c0 : Nat) (ro : List Int) (a1 : Option Addr) (n c1 : Nat) (A1 : Nat → Option Addr) (C1 : Nat → Nat) (U : Nat → List Int) (a2 : Option Addr) (m c2 : Nat) (A2 : Nat → Option Addr) (C2 : Nat → Nat) (D : Nat → List Int) (h k : Int) (a5 : Option Addr) (n5 c5 : Nat) (xs : List Int) (w : World) (h0 : Reads .i8 w a0 n0 ro) (l0 : n0 ≤ c0) (g1 : Nets w a1 n A1 C1 U) (g2 : Nets w a2 m A2 C2 D) (h5 : Reads .i64 w a5 n5 xs) (wh : (Lit.int .i64 h).wf = true) (wk : (Lit.int .i64 k).wf = true) (b0 : n0 * 8 ≤ 140737488355328) (b1 : n * 24 ≤ 140737488351232) (b5 : n5 * 8 ≤ 140737488355328) (hn : 1 < n) (hm : n = m) (hf : routeB ro n k xs = true) (hr : restB ro U D h k.toNat xs = false) :
    Calls Try.prog 11 #[.slice a0 n0 c0, .slice a1 n c1, .slice a2 m c2, .int .i64 h, .int .i64 k, .slice a5 n5 c5] w fun e w' => e = .returned (.tuple #[.slice none 0 0, .int .i64 21]) ∧ Below w.heap.size w w' := by
  obtain ⟨J, hJ, hall, hno⟩ := restB_no hr
  clear hr
  subst hm
  have hm1 := g1.grid.max
  have p1 : ((n : Int) == 0) = false := by simp; omega
  have p2 : ((n : Int) == 1) = false := by simp; omega
  have hlt0 := fun j (h : j < k.toNat) => plc_lt hf h
  have hat0 := fun j (h : j < k.toNat) => routeP_at hf h
  have kr := refRoute_yes a0 n0 c0 ro n k a5 n5 c5 xs w h0 l0 h5 (WalkArith.wf_i64 ⟨by omega, by omega⟩) wk b0 hf
  have hb' : (decide (1 ≤ k) && decide (k ≤ n) && fitB ro.length n xs.length) = true := hf
  simp only [Bool.and_eq_true, decide_eq_true_eq] at hb'
  obtain ⟨⟨hk1, hk2⟩, -⟩ := hb'
  obtain ⟨K, eK⟩ : ∃ K, k.toNat = K := ⟨_, rfl⟩
  obtain rfl : k = (K : Int) := by omega
  have Kn : K ≤ n := by omega
  have hlt' : ∀ j, j < K → plc ro xs j < n := fun j h => by have := hlt0 j (by omega); omega
  have hat : ∀ j, j < K → (routeP ro (K : Int) xs).getD j 0 = ((plc ro xs j : Nat) : Int) := fun j h => hat0 j (by omega)
  have hsb := fun j => routeS_bounds ro (K : Int) xs j
  clear hlt0 hat0 hf
  obtain ⟨i0, hi, hz0, hz1, hz2⟩ := info_parts info2
  obtain ⟨x, rfl⟩ := g1.grid.some_ (by omega)
  obtain ⟨y, rfl⟩ := g2.grid.some_ (by omega)
  obtain ⟨SP, eSP⟩ : ∃ SP, routeP ro (K : Int) xs = SP := ⟨_, rfl⟩
  obtain ⟨SS, eSS⟩ : ∃ SS, routeS ro (K : Int) xs = SS := ⟨_, rfl⟩
  rw [eK, eSP, eSS] at kr
  rw [eSP] at hat
  rw [eSS] at hsb
  have ESS : Hid (routeS ro (K : Int) xs = SS) := eSS
  have hJK : J < K := by omega
  clear eK eSP eSS hJ
  go_enter Try.func11, Try.ntmps11
  go_wp2_with (first
    | (go_at_call 13; refine kr.mono ?_; rintro e w1 ⟨⟨ap, cp, aq, cq, rfl, hrp, hrs⟩, hb1⟩)
    | (at_make; refine wpList_make_full _ rfl (.tmp 61) (.tmp 61) 24 rfl w1.heap.size 2 i0 (.int .i64 0) 1 Try.underlying24 hi hz0 hz1 .i64 .i64 _ _ n5 rfl rfl rfl rfl (by rw [hz2]; omega) (by unfold maxLen; omega) (Nat.le_refl _) ?_; intro w2 hown hgrow))
  have hb2 : Below w1.heap.size w1 w2 := (Below.refl _ _).grown hgrow (Nat.le_refl _) (fun k h => by cases h)
  obtain ⟨tp, rfl⟩ := hrp.some_ (by omega)
  obtain ⟨tq, rfl⟩ := hrs.some_ (by omega)
  clear kr
  go_wp2
  go_loopw [18] (fun i wr => ∃ j : Nat, j ≤ J ∧ i = .int .i64 j ∧ Below w1.heap.size w1 wr ∧ ∃ cs, wr.ownsRow w1.heap.size 2 1 (.slice (some ⟨w1.heap.size, 0, none⟩) n5 n5) n5 cs ∧ ∀ i, i < n5 → cs[i]? = some (.int .i64 (blendTo (fun j => SS.getD j 0) (rowsL ro U D xs) i j))) (fun i _ => K - (intOf i).toNat)
  case atStart => exact ⟨0, Nat.zero_le _, rfl, hb2, _, hown, fun j hj => made_zeros n5 j hj⟩
  case round =>
    clear hown hgrow hb2
    obtain ⟨j, hj, rfl, hbr, cs, ho, hcs⟩ := hrel
    have hltK : j < K := by omega
    by_cases hltJ : j < J
    · have HF := hall j hltJ
      have pj := hlt' j hltK
      have cp' := fun (W : World) (hb : Below wr.heap.size wr W) => ((hrp.below hbr).below hb).cell tp rfl j hltK
      simp only [hat j hltK] at cp'
      have bw := below_then hb1 hbr
      have cx := fun (W : World) (hb : Below wr.heap.size wr W) => (g1.grid.below (below_then bw hb)).cell x rfl (plc ro xs j) pj
      have cy := fun (W : World) (hb : Below wr.heap.size wr W) => (g2.grid.below (below_then bw hb)).cell y rfl (plc ro xs j) pj
      have ko := fun (W : World) (hb : Below wr.heap.size wr W) => refOne_yes (A1 (plc ro xs j)) (U (plc ro xs j)).length (C1 (plc ro xs j)) (U (plc ro xs j)) (A2 (plc ro xs j)) (D (plc ro xs j)).length (C2 (plc ro xs j)) (D (plc ro xs j)) h a5 n5 c5 xs W ((g1.grid.row _ pj).below (below_then bw hb)) (g1.cap _ pj) ((g2.grid.row _ pj).below (below_then bw hb)) (g2.cap _ pj) (h5.below (below_then bw hb)) wh (g1.bnd _ pj) (g2.bnd _ pj) HF
      have hlen := own_length ho
      have hsz := hbr.size
      have hw1 : w1.heap.size < wr.heap.size := (ho.lt _ rfl).2
      obtain ⟨O, eO⟩ : ∃ O, oneL (U (plc ro xs j)) (D (plc ro xs j)) xs = O := ⟨_, rfl⟩
      have EO : Hid (rowsL ro U D xs j = O) := eO
      have ob : ∀ i, -2147483648 ≤ O.getD i 0 ∧ O.getD i 0 ≤ 2147483647 := fun i => by rw [← eO]; exact matL_bounds _ _ _
      have ol : O.length = n5 := by rw [← eO, oneL_length HF, h5.len]
      rw [eO] at ko
      obtain ⟨p, ep⟩ : ∃ p, plc ro xs j = p := ⟨_, rfl⟩
      rw [ep] at pj cp' cx cy ko
      clear eO ep HF
      go_wp2
      refine rp_region x y n c1 c2 (U p).length (C1 p) (D p).length (C2 p) n5 c5 (A1 p) (A2 p) a5 h tp K cp j p w1.heap.size O 0 (fun W => Below wr.heap.size wr W) (by kernel_rfl) rfl ⟨_, rfl, rfl, rfl, rfl, by kernel_rfl⟩ ⟨_, rfl, rfl, rfl, rfl, by kernel_rfl⟩ ⟨_, rfl, rfl, rfl, rfl, by kernel_rfl⟩ ⟨_, rfl, rfl, rfl, rfl, by kernel_rfl⟩ ⟨_, rfl, rfl, rfl, rfl, by kernel_rfl⟩ ⟨_, rfl, rfl, rfl, rfl, by kernel_rfl⟩ ⟨_, rfl, rfl, rfl, rfl, by kernel_rfl⟩ ⟨_, rfl, rfl, rfl, rfl, by kernel_rfl⟩ ⟨_, rfl, rfl, rfl, rfl, by kernel_rfl⟩ ⟨_, rfl, rfl, rfl, rfl, by kernel_rfl⟩ ⟨_, rfl, rfl, rfl, rfl, by kernel_rfl⟩ ⟨_, rfl, rfl, rfl, rfl, by kernel_rfl⟩ ⟨_, rfl, rfl, rfl, rfl, by kernel_rfl⟩ ⟨_, rfl, rfl, rfl, rfl, by kernel_rfl⟩ ⟨_, rfl, rfl, rfl, rfl, by kernel_rfl⟩ ⟨_, rfl, rfl, rfl, rfl, by kernel_rfl⟩ ⟨_, rfl, rfl, rfl, rfl, by kernel_rfl⟩ ⟨_, rfl, rfl, rfl, rfl, by kernel_rfl⟩ ⟨_, rfl, rfl, rfl, rfl, by kernel_rfl⟩ ⟨_, rfl, rfl, rfl, rfl, by kernel_rfl⟩ ⟨_, rfl, rfl, rfl, rfl, by kernel_rfl⟩ ⟨_, rfl, rfl, rfl, rfl, by kernel_rfl⟩ (Below.refl _ _).drew (run_index32 _ _ _ _ hltK) (fun W hb => run_load3 (cp' W hb)) (run_index23 _ _ _ _ pj) (fun W hb => run_load22 (cx W hb)) (run_index32 _ _ _ _ hltK) (fun W hb => run_load3 (cp' W hb)) (run_index23 _ _ _ _ pj) (fun W hb => run_load22 (cy W hb)) (fun W hb => (ko W hb).mono fun e w' ⟨⟨b, bc, q1, q2, q3⟩, q5⟩ => ⟨b, n5, bc, q1, q2, (fun z hz q => by have := q3 z hz; have := hb.size; omega), q5, below_then hb q5⟩) rfl rfl rfl rfl rfl rfl (Nat.le_of_ble_eq_true rfl) ?_
      intro a W9 hs hd hkp hS9 hval
      have e20 : a.tmps.getD 20 undef = .int .i64 0 := hval 21 20 (by decide) rfl
      obtain ⟨b9, n9, c9, e19, f19, z19⟩ := hval 20 19 (by decide) rfl
      have ep := frame_puts [70, 71, 72, 73, 74, 75, 76, 77, 78, 79, 80, 81, 82, 83, 84, 85, 86, 69, 87, 88, 19, 20] hs hd (fun s h => hkp s (fun i hi e => h (by
        rcases (show i = 0 ∨ i = 1 ∨ i = 2 ∨ i = 3 ∨ i = 4 ∨ i = 5 ∨ i = 6 ∨ i = 7 ∨ i = 8 ∨ i = 9 ∨ i = 10 ∨ i = 11 ∨ i = 12 ∨ i = 13 ∨ i = 14 ∨ i = 15 ∨ i = 16 ∨ i = 17 ∨ i = 18 ∨ i = 19 ∨ i = 20 ∨ i = 21 by omega) with rfl | rfl | rfl | rfl | rfl | rfl | rfl | rfl | rfl | rfl | rfl | rfl | rfl | rfl | rfl | rfl | rfl | rfl | rfl | rfl | rfl | rfl <;> (simp only [rpD, Option.some.injEq] at e; subst e; simp))))
      simp only [List.foldl] at ep
      rw [e20] at ep
      rw [e19] at ep
      have H9 := hidden_ hS9
      clear hs hd hkp hval hS9 e20 e19
      generalize a.tmps.getD 70 undef = g70 at ep
      generalize a.tmps.getD 71 undef = g71 at ep
      generalize a.tmps.getD 72 undef = g72 at ep
      generalize a.tmps.getD 73 undef = g73 at ep
      generalize a.tmps.getD 74 undef = g74 at ep
      generalize a.tmps.getD 75 undef = g75 at ep
      generalize a.tmps.getD 76 undef = g76 at ep
      generalize a.tmps.getD 77 undef = g77 at ep
      generalize a.tmps.getD 78 undef = g78 at ep
      generalize a.tmps.getD 79 undef = g79 at ep
      generalize a.tmps.getD 80 undef = g80 at ep
      generalize a.tmps.getD 81 undef = g81 at ep
      generalize a.tmps.getD 82 undef = g82 at ep
      generalize a.tmps.getD 83 undef = g83 at ep
      generalize a.tmps.getD 84 undef = g84 at ep
      generalize a.tmps.getD 85 undef = g85 at ep
      generalize a.tmps.getD 86 undef = g86 at ep
      generalize a.tmps.getD 69 undef = g69 at ep
      generalize a.tmps.getD 87 undef = g87 at ep
      generalize a.tmps.getD 88 undef = g88 at ep
      simp only [Act.put, List.setIfInBounds_toArray, List.set_cons_succ, List.set_cons_zero] at ep
      subst ep
      obtain rfl : n9 = n5 := f19.len.symm.trans ol
      have hS : Below wr.heap.size wr W9 := H9.out
      have ho9 := own_below ho hS
      have hb9 := below_then hbr hS
      clear H9 hS ho hbr ko cx cy cp' bw
      rename_i wr0 _
      go_wp2
      go_loopw [21] (fun i wr => ∃ q : Nat, q ≤ n9 ∧ i = .int .i64 q ∧ Below w1.heap.size w1 wr ∧ Reads .i64 wr b9 n9 O ∧ ∃ ds, wr.ownsRow w1.heap.size 2 1 (.slice (some ⟨w1.heap.size, 0, none⟩) n9 n9) n9 ds ∧ ∀ i, i < n9 → ds[i]? = some (.int .i64 (blendTo (fun j => SS.getD j 0) (rowsL ro U D xs) i (if i < q then j + 1 else j)))) (fun i _ => n9 - (intOf i).toNat)
      case atStart => exact ⟨0, Nat.zero_le _, rfl, hb9, f19, _, ho9, fun i hi' => by rw [if_neg (by omega)]; exact hcs i hi'⟩
      case round =>
        clear ho9 hb9 f19 hcs
        obtain ⟨q, hq, rfl, hbq, hrO, ds, hoq, hds⟩ := hrel
        by_cases hltq : q < n9
        · obtain ⟨b9', rfl⟩ := hrO.some_ (by omega)
          have hlenq := own_length hoq
          have hdq := hds q hltq
          rw [if_neg (Nat.lt_irrefl q)] at hdq
          have cB : wr.drew.cell? ⟨w1.heap.size, q, none⟩ = some (.int .i64 (blendTo (fun j => SS.getD j 0) (rowsL ro U D xs) q j)) := (hoq.cellAt q (by omega)).trans hdq
          have froz : wr.drew.frozen? ⟨w1.heap.size, q, none⟩ = false := hoq.frozenAt q
          have cS : wr.drew.cell? (tq.add j) = some (.int .i64 (SS.getD j 0)) := (hrs.below hbq).cell tq rfl j hltK
          have cY : wr.drew.cell? (b9'.add q) = some (.int .i64 (O.getD q 0)) := hrO.cell b9' rfl q hltq
          have pb := prodM_bounds _ _ (hsb j) (ob q)
          have wS := wf_blendTo (fun j => SS.getD j 0) (rowsL ro U D xs) q j
          have es : blendTo (fun j => SS.getD j 0) (rowsL ro U D xs) q (j + 1) = addZ (blendTo (fun j => SS.getD j 0) (rowsL ro U D xs) q j) (SS.getD j 0 * O.getD q 0) := by rw [← EO.out]; rfl
          obtain ⟨X0, e0⟩ : ∃ X0, blendTo (fun j => SS.getD j 0) (rowsL ro U D xs) q j = X0 := ⟨_, rfl⟩
          obtain ⟨X1, e1⟩ : ∃ X1, SS.getD j 0 = X1 := ⟨_, rfl⟩
          obtain ⟨X2, e2⟩ : ∃ X2, O.getD q 0 = X2 := ⟨_, rfl⟩
          rw [e0] at cB wS
          rw [e1] at cS pb
          rw [e2] at cY pb
          rw [e0, e1, e2] at es
          obtain ⟨X3, e3⟩ : ∃ X3, X1 * X2 = X3 := ⟨_, rfl⟩
          rw [e3] at pb es
          have p30 : -9223372036854775808 ≤ X3 := by omega
          have p31 : X3 ≤ 9223372036854775807 := by omega
          have ka := fun W => refAdd_call X0 X3 wS (WalkArith.wf_i64 ⟨p30, p31⟩) W
          obtain ⟨X4, e4⟩ : ∃ X4, addZ X0 X3 = X4 := ⟨_, rfl⟩
          rw [e4] at ka es
          have Rb : Below w1.heap.size w1 (wr.drew.setCell ⟨w1.heap.size, q, none⟩ (.int .i64 X4)) := (hbq.drew).setCell (Nat.le_refl _) _
          have Ro : Reads .i64 (wr.drew.setCell ⟨w1.heap.size, q, none⟩ (.int .i64 X4)) (some b9') n9 O := (hrO.drewN 1).setOff (fun e => z19 b9' rfl e.symm) _
          have R' := hidden_ (And.intro Rb (And.intro Ro (And.intro (show (wr.drew.setCell ⟨w1.heap.size, q, none⟩ (.int .i64 X4)).ownsRow w1.heap.size 2 1 (.slice (some ⟨w1.heap.size, 0, none⟩) n9 n9) n9 (ds.set q (.int .i64 X4)) from ((own_drew hoq).stored q _).1) (show ∀ i, i < n9 → (ds.set q (Value.int .i64 X4))[i]? = some (.int .i64 (blendTo (fun j => SS.getD j 0) (rowsL ro U D xs) i (if i < q + 1 then j + 1 else j))) from by
            intro i hi'
            by_cases e : i = q
            · subst e
              rw [if_pos (by omega), es]
              simp [hlenq, hltq]
            · rw [List.getElem?_set_ne (by omega), hds i hi']
              by_cases hiq : i < q
              · rw [if_pos hiq, if_pos (by omega)]
              · rw [if_neg hiq, if_neg (by omega)]))))
          clear es e0 e1 e2 e4 wS pb hdq hds hoq hrO hbq hlenq Rb Ro
          go_wp2
          refine rs_region tq b9' w1.heap.size K n9 cq c9 j q X0 X1 X2 X3 X4 (fun W => W = wr.drew) (by kernel_rfl) rfl ⟨_, rfl, rfl, rfl, rfl, by kernel_rfl⟩ ⟨_, rfl, rfl, rfl, rfl, by kernel_rfl⟩ ⟨_, rfl, rfl, rfl, rfl, by kernel_rfl⟩ ⟨_, rfl, rfl, rfl, rfl, by kernel_rfl⟩ ⟨_, rfl, rfl, rfl, rfl, by kernel_rfl⟩ ⟨_, rfl, rfl, rfl, rfl, by kernel_rfl⟩ ⟨_, rfl, rfl, rfl, rfl, by kernel_rfl⟩ ⟨_, rfl, rfl, rfl, rfl, by kernel_rfl⟩ ⟨_, rfl, rfl, rfl, rfl, by kernel_rfl⟩ ⟨_, rfl, rfl, rfl, rfl, by kernel_rfl⟩ ⟨_, rfl, rfl, rfl, rfl, by kernel_rfl⟩ ⟨_, rfl, rfl, rfl, rfl, by kernel_rfl⟩ ⟨_, rfl, rfl, rfl, rfl, by kernel_rfl⟩ ⟨_, rfl, rfl, rfl, rfl, by kernel_rfl⟩ ⟨_, rfl, rfl, rfl, rfl, by kernel_rfl⟩ ⟨_, rfl, rfl, rfl, rfl, by kernel_rfl⟩ ⟨_, rfl, rfl, rfl, rfl, by kernel_rfl⟩ ⟨_, rfl, rfl, rfl, rfl, by kernel_rfl⟩ rfl (run_index24l _ _ _ _ hltq) (fun W hW => by rw [hW]; exact run_load2 cB) (run_index24 _ _ _ _ hltK) (fun W hW => by rw [hW]; exact run_load2 cS) (run_index24 _ _ _ _ hltq) (fun W hW => by rw [hW]; exact run_load2 cY) (run_mul2 _ _ _ e3 p30 p31) (fun W _ => ka W) (run_index24l _ _ _ _ hltq) rfl rfl rfl rfl rfl (Nat.le_of_ble_eq_true rfl) ?_
          intro a W9 hs hd hkp hS9 hval
          have e113 : a.tmps.getD 113 undef = .int .i64 X4 := hval 15 113 (by decide) rfl
          have e114 : a.tmps.getD 114 undef = .pointer (some ⟨w1.heap.size, q, none⟩) := hval 16 114 (by decide) rfl
          have hW9 : W9 = wr.drew := hS9
          subst hW9
          rw [e113, e114]
          refine ⟨_, run_store2 cB froz, ?_⟩
          have ep := frame_puts [98, 99, 100, 101, 102, 103, 104, 105, 106, 107, 108, 109, 110, 111, 112, 113, 114] hs hd (fun s h => hkp s (fun i hi e => h (by
            rcases (show i = 0 ∨ i = 1 ∨ i = 2 ∨ i = 3 ∨ i = 4 ∨ i = 5 ∨ i = 6 ∨ i = 7 ∨ i = 8 ∨ i = 9 ∨ i = 10 ∨ i = 11 ∨ i = 12 ∨ i = 13 ∨ i = 14 ∨ i = 15 ∨ i = 16 ∨ i = 17 by omega) with rfl | rfl | rfl | rfl | rfl | rfl | rfl | rfl | rfl | rfl | rfl | rfl | rfl | rfl | rfl | rfl | rfl | rfl <;> (simp only [rsD, Option.some.injEq] at e; first | (subst e; simp) | cases e))))
          simp only [List.foldl] at ep
          rw [e113] at ep
          rw [e114] at ep
          clear hs hd hkp hval hS9 e113 e114
          generalize a.tmps.getD 98 undef = g98 at ep
          generalize a.tmps.getD 99 undef = g99 at ep
          generalize a.tmps.getD 100 undef = g100 at ep
          generalize a.tmps.getD 101 undef = g101 at ep
          generalize a.tmps.getD 102 undef = g102 at ep
          generalize a.tmps.getD 103 undef = g103 at ep
          generalize a.tmps.getD 104 undef = g104 at ep
          generalize a.tmps.getD 105 undef = g105 at ep
          generalize a.tmps.getD 106 undef = g106 at ep
          generalize a.tmps.getD 107 undef = g107 at ep
          generalize a.tmps.getD 108 undef = g108 at ep
          generalize a.tmps.getD 109 undef = g109 at ep
          generalize a.tmps.getD 110 undef = g110 at ep
          generalize a.tmps.getD 111 undef = g111 at ep
          generalize a.tmps.getD 112 undef = g112 at ep
          simp only [Act.put, List.setIfInBounds_toArray, List.set_cons_succ, List.set_cons_zero] at ep
          subst ep
          go_wp2
          go_roundw
          case rel => exact ⟨q + 1, by omega, by go_num, R'.out.1, R'.out.2.1, _, R'.out.2.2.1, R'.out.2.2.2⟩
          case measure => simp [intOf]; omega
        · have e : q = n9 := by omega
          subst e
          have R' := hidden_ (And.intro hbq (And.intro hoq (show ∀ i, i < q → ds[i]? = some (.int .i64 (blendTo (fun j => SS.getD j 0) (rowsL ro U D xs) i (j + 1))) from fun i hi' => by rw [hds i hi', if_pos hi'])))
          clear hds hoq hbq hrO
          go_wp2
          go_roundw
          case rel => exact ⟨j + 1, by omega, by go_num, R'.out.1, _, R'.out.2.1, R'.out.2.2⟩
          case measure => simp [intOf]; omega
    · have e : j = J := by omega
      subst e
      have HF := hno
      have pj := hlt' j hltK
      have cp' := fun (W : World) (hb : Below wr.heap.size wr W) => ((hrp.below hbr).below hb).cell tp rfl j hltK
      simp only [hat j hltK] at cp'
      have bw := below_then hb1 hbr
      have cx := fun (W : World) (hb : Below wr.heap.size wr W) => (g1.grid.below (below_then bw hb)).cell x rfl (plc ro xs j) pj
      have cy := fun (W : World) (hb : Below wr.heap.size wr W) => (g2.grid.below (below_then bw hb)).cell y rfl (plc ro xs j) pj
      have ko := fun (W : World) (hb : Below wr.heap.size wr W) => refOne_no (A1 (plc ro xs j)) (U (plc ro xs j)).length (C1 (plc ro xs j)) (U (plc ro xs j)) (A2 (plc ro xs j)) (D (plc ro xs j)).length (C2 (plc ro xs j)) (D (plc ro xs j)) h a5 n5 c5 xs W ((g1.grid.row _ pj).below (below_then bw hb)) (g1.cap _ pj) ((g2.grid.row _ pj).below (below_then bw hb)) (g2.cap _ pj) (h5.below (below_then bw hb)) wh (g1.bnd _ pj) (g2.bnd _ pj) HF
      obtain ⟨p, ep⟩ : ∃ p, plc ro xs j = p := ⟨_, rfl⟩
      rw [ep] at pj cp' cx cy ko
      clear ep HF hno
      go_wp2
      refine rp_region x y n c1 c2 (U p).length (C1 p) (D p).length (C2 p) n5 c5 (A1 p) (A2 p) a5 h tp K cp j p w1.heap.size [] 21 (fun W => Below wr.heap.size wr W) (by kernel_rfl) rfl ⟨_, rfl, rfl, rfl, rfl, by kernel_rfl⟩ ⟨_, rfl, rfl, rfl, rfl, by kernel_rfl⟩ ⟨_, rfl, rfl, rfl, rfl, by kernel_rfl⟩ ⟨_, rfl, rfl, rfl, rfl, by kernel_rfl⟩ ⟨_, rfl, rfl, rfl, rfl, by kernel_rfl⟩ ⟨_, rfl, rfl, rfl, rfl, by kernel_rfl⟩ ⟨_, rfl, rfl, rfl, rfl, by kernel_rfl⟩ ⟨_, rfl, rfl, rfl, rfl, by kernel_rfl⟩ ⟨_, rfl, rfl, rfl, rfl, by kernel_rfl⟩ ⟨_, rfl, rfl, rfl, rfl, by kernel_rfl⟩ ⟨_, rfl, rfl, rfl, rfl, by kernel_rfl⟩ ⟨_, rfl, rfl, rfl, rfl, by kernel_rfl⟩ ⟨_, rfl, rfl, rfl, rfl, by kernel_rfl⟩ ⟨_, rfl, rfl, rfl, rfl, by kernel_rfl⟩ ⟨_, rfl, rfl, rfl, rfl, by kernel_rfl⟩ ⟨_, rfl, rfl, rfl, rfl, by kernel_rfl⟩ ⟨_, rfl, rfl, rfl, rfl, by kernel_rfl⟩ ⟨_, rfl, rfl, rfl, rfl, by kernel_rfl⟩ ⟨_, rfl, rfl, rfl, rfl, by kernel_rfl⟩ ⟨_, rfl, rfl, rfl, rfl, by kernel_rfl⟩ ⟨_, rfl, rfl, rfl, rfl, by kernel_rfl⟩ ⟨_, rfl, rfl, rfl, rfl, by kernel_rfl⟩ (Below.refl _ _).drew (run_index32 _ _ _ _ hltK) (fun W hb => run_load3 (cp' W hb)) (run_index23 _ _ _ _ pj) (fun W hb => run_load22 (cx W hb)) (run_index32 _ _ _ _ hltK) (fun W hb => run_load3 (cp' W hb)) (run_index23 _ _ _ _ pj) (fun W hb => run_load22 (cy W hb)) (fun W hb => (ko W hb).mono fun e w' ⟨q1, q5⟩ => ⟨none, 0, 0, q1, Reads.nil _ _, (fun z hz => by cases hz), q5, below_then hb q5⟩) rfl rfl rfl rfl rfl rfl (Nat.le_of_ble_eq_true rfl) ?_
      intro a W9 hs hd hkp hS9 hval
      have e20 : a.tmps.getD 20 undef = .int .i64 21 := hval 21 20 (by decide) rfl
      obtain ⟨b9, n9, c9, e19, f19, z19⟩ := hval 20 19 (by decide) rfl
      have ep := frame_puts [70, 71, 72, 73, 74, 75, 76, 77, 78, 79, 80, 81, 82, 83, 84, 85, 86, 69, 87, 88, 19, 20] hs hd (fun s h => hkp s (fun i hi e => h (by
        rcases (show i = 0 ∨ i = 1 ∨ i = 2 ∨ i = 3 ∨ i = 4 ∨ i = 5 ∨ i = 6 ∨ i = 7 ∨ i = 8 ∨ i = 9 ∨ i = 10 ∨ i = 11 ∨ i = 12 ∨ i = 13 ∨ i = 14 ∨ i = 15 ∨ i = 16 ∨ i = 17 ∨ i = 18 ∨ i = 19 ∨ i = 20 ∨ i = 21 by omega) with rfl | rfl | rfl | rfl | rfl | rfl | rfl | rfl | rfl | rfl | rfl | rfl | rfl | rfl | rfl | rfl | rfl | rfl | rfl | rfl | rfl | rfl <;> (simp only [rpD, Option.some.injEq] at e; subst e; simp))))
      simp only [List.foldl] at ep
      rw [e20] at ep
      rw [e19] at ep
      have H9 := hidden_ hS9
      clear hs hd hkp hval hS9 e20 e19
      generalize a.tmps.getD 70 undef = g70 at ep
      generalize a.tmps.getD 71 undef = g71 at ep
      generalize a.tmps.getD 72 undef = g72 at ep
      generalize a.tmps.getD 73 undef = g73 at ep
      generalize a.tmps.getD 74 undef = g74 at ep
      generalize a.tmps.getD 75 undef = g75 at ep
      generalize a.tmps.getD 76 undef = g76 at ep
      generalize a.tmps.getD 77 undef = g77 at ep
      generalize a.tmps.getD 78 undef = g78 at ep
      generalize a.tmps.getD 79 undef = g79 at ep
      generalize a.tmps.getD 80 undef = g80 at ep
      generalize a.tmps.getD 81 undef = g81 at ep
      generalize a.tmps.getD 82 undef = g82 at ep
      generalize a.tmps.getD 83 undef = g83 at ep
      generalize a.tmps.getD 84 undef = g84 at ep
      generalize a.tmps.getD 85 undef = g85 at ep
      generalize a.tmps.getD 86 undef = g86 at ep
      generalize a.tmps.getD 69 undef = g69 at ep
      generalize a.tmps.getD 87 undef = g87 at ep
      generalize a.tmps.getD 88 undef = g88 at ep
      simp only [Act.put, List.setIfInBounds_toArray, List.set_cons_succ, List.set_cons_zero] at ep
      subst ep
      go_wp2
      go_ret2
      exact ⟨rfl, below_then bw H9.out⟩

set_option maxHeartbeats 4000000 in
set_option maxRecDepth 20000 in
theorem refMix_yes (a0 : Option Addr) (n0 c0 : Nat) (ro : List Int) (a1 : Option Addr) (n c1 : Nat) (A1 : Nat → Option Addr) (C1 : Nat → Nat) (U : Nat → List Int) (a2 : Option Addr) (m c2 : Nat) (A2 : Nat → Option Addr) (C2 : Nat → Nat) (D : Nat → List Int) (h k : Int) (a5 : Option Addr) (n5 c5 : Nat) (xs : List Int) (w : World) (h0 : Reads .i8 w a0 n0 ro) (l0 : n0 ≤ c0) (g1 : Nets w a1 n A1 C1 U) (g2 : Nets w a2 m A2 C2 D) (h5 : Reads .i64 w a5 n5 xs) (wh : (Lit.int .i64 h).wf = true) (wk : (Lit.int .i64 k).wf = true) (b0 : n0 * 8 ≤ 140737488355328) (b1 : n * 24 ≤ 140737488351232) (b5 : n5 * 8 ≤ 140737488355328) (hn : 1 < n) (hm : n = m) (hf : routeB ro n k xs = true) (hr : restB ro U D h k.toNat xs = true) :
    Calls Try.prog 11 #[.slice a0 n0 c0, .slice a1 n c1, .slice a2 m c2, .int .i64 h, .int .i64 k, .slice a5 n5 c5] w fun e w' => (∃ a c, e = .returned (.tuple #[.slice a n5 c, .int .i64 0]) ∧ Reads .i64 w' a n5 (sumL ro U D k xs)) ∧ Below w.heap.size w w' := by
  have hall := fun j (hj : j < k.toNat) => restB_yes hr hj
  clear hr
  subst hm
  have hm1 := g1.grid.max
  have p1 : ((n : Int) == 0) = false := by simp; omega
  have p2 : ((n : Int) == 1) = false := by simp; omega
  have hlt0 := fun j (h : j < k.toNat) => plc_lt hf h
  have hat0 := fun j (h : j < k.toNat) => routeP_at hf h
  have kr := refRoute_yes a0 n0 c0 ro n k a5 n5 c5 xs w h0 l0 h5 (WalkArith.wf_i64 ⟨by omega, by omega⟩) wk b0 hf
  have hb' : (decide (1 ≤ k) && decide (k ≤ n) && fitB ro.length n xs.length) = true := hf
  simp only [Bool.and_eq_true, decide_eq_true_eq] at hb'
  obtain ⟨⟨hk1, hk2⟩, -⟩ := hb'
  obtain ⟨K, eK⟩ : ∃ K, k.toNat = K := ⟨_, rfl⟩
  obtain rfl : k = (K : Int) := by omega
  have Kn : K ≤ n := by omega
  have hlt' : ∀ j, j < K → plc ro xs j < n := fun j h => by have := hlt0 j (by omega); omega
  have hat : ∀ j, j < K → (routeP ro (K : Int) xs).getD j 0 = ((plc ro xs j : Nat) : Int) := fun j h => hat0 j (by omega)
  have hsb := fun j => routeS_bounds ro (K : Int) xs j
  clear hlt0 hat0 hf
  obtain ⟨i0, hi, hz0, hz1, hz2⟩ := info_parts info2
  obtain ⟨x, rfl⟩ := g1.grid.some_ (by omega)
  obtain ⟨y, rfl⟩ := g2.grid.some_ (by omega)
  obtain ⟨SP, eSP⟩ : ∃ SP, routeP ro (K : Int) xs = SP := ⟨_, rfl⟩
  obtain ⟨SS, eSS⟩ : ∃ SS, routeS ro (K : Int) xs = SS := ⟨_, rfl⟩
  rw [eK, eSP, eSS] at kr
  rw [eSP] at hat
  rw [eSS] at hsb
  have ESS : Hid (routeS ro (K : Int) xs = SS) := eSS
  have hall' : ∀ j, j < K → oneB (U (plc ro xs j)) (D (plc ro xs j)) h xs = true := fun j hj => hall j (by omega)
  have hsl := sumL_length ro U D (K : Int) xs
  have hsa := fun i => sumL_at ro U D (K : Int) xs i
  rw [h5.len] at hsl hsa
  clear eK eSP eSS hall
  go_enter Try.func11, Try.ntmps11
  go_wp2_with (first
    | (go_at_call 13; refine kr.mono ?_; rintro e w1 ⟨⟨ap, cp, aq, cq, rfl, hrp, hrs⟩, hb1⟩)
    | (at_make; refine wpList_make_full _ rfl (.tmp 61) (.tmp 61) 24 rfl w1.heap.size 2 i0 (.int .i64 0) 1 Try.underlying24 hi hz0 hz1 .i64 .i64 _ _ n5 rfl rfl rfl rfl (by rw [hz2]; omega) (by unfold maxLen; omega) (Nat.le_refl _) ?_; intro w2 hown hgrow))
  have hb2 : Below w1.heap.size w1 w2 := (Below.refl _ _).grown hgrow (Nat.le_refl _) (fun k h => by cases h)
  obtain ⟨tp, rfl⟩ := hrp.some_ (by omega)
  obtain ⟨tq, rfl⟩ := hrs.some_ (by omega)
  clear kr
  go_wp2
  go_loopw [18] (fun i wr => ∃ j : Nat, j ≤ K ∧ i = .int .i64 j ∧ Below w1.heap.size w1 wr ∧ ∃ cs, wr.ownsRow w1.heap.size 2 1 (.slice (some ⟨w1.heap.size, 0, none⟩) n5 n5) n5 cs ∧ ∀ i, i < n5 → cs[i]? = some (.int .i64 (blendTo (fun j => SS.getD j 0) (rowsL ro U D xs) i j))) (fun i _ => K - (intOf i).toNat)
  case atStart => exact ⟨0, Nat.zero_le _, rfl, hb2, _, hown, fun j hj => made_zeros n5 j hj⟩
  case round =>
    clear hown hgrow hb2
    obtain ⟨j, hj, rfl, hbr, cs, ho, hcs⟩ := hrel
    by_cases hltK : j < K
    · have HF := hall' j hltK
      have pj := hlt' j hltK
      have cp' := fun (W : World) (hb : Below wr.heap.size wr W) => ((hrp.below hbr).below hb).cell tp rfl j hltK
      simp only [hat j hltK] at cp'
      have bw := below_then hb1 hbr
      have cx := fun (W : World) (hb : Below wr.heap.size wr W) => (g1.grid.below (below_then bw hb)).cell x rfl (plc ro xs j) pj
      have cy := fun (W : World) (hb : Below wr.heap.size wr W) => (g2.grid.below (below_then bw hb)).cell y rfl (plc ro xs j) pj
      have ko := fun (W : World) (hb : Below wr.heap.size wr W) => refOne_yes (A1 (plc ro xs j)) (U (plc ro xs j)).length (C1 (plc ro xs j)) (U (plc ro xs j)) (A2 (plc ro xs j)) (D (plc ro xs j)).length (C2 (plc ro xs j)) (D (plc ro xs j)) h a5 n5 c5 xs W ((g1.grid.row _ pj).below (below_then bw hb)) (g1.cap _ pj) ((g2.grid.row _ pj).below (below_then bw hb)) (g2.cap _ pj) (h5.below (below_then bw hb)) wh (g1.bnd _ pj) (g2.bnd _ pj) HF
      have hlen := own_length ho
      have hsz := hbr.size
      have hw1 : w1.heap.size < wr.heap.size := (ho.lt _ rfl).2
      obtain ⟨O, eO⟩ : ∃ O, oneL (U (plc ro xs j)) (D (plc ro xs j)) xs = O := ⟨_, rfl⟩
      have EO : Hid (rowsL ro U D xs j = O) := eO
      have ob : ∀ i, -2147483648 ≤ O.getD i 0 ∧ O.getD i 0 ≤ 2147483647 := fun i => by rw [← eO]; exact matL_bounds _ _ _
      have ol : O.length = n5 := by rw [← eO, oneL_length HF, h5.len]
      rw [eO] at ko
      obtain ⟨p, ep⟩ : ∃ p, plc ro xs j = p := ⟨_, rfl⟩
      rw [ep] at pj cp' cx cy ko
      clear eO ep HF
      go_wp2
      refine rp_region x y n c1 c2 (U p).length (C1 p) (D p).length (C2 p) n5 c5 (A1 p) (A2 p) a5 h tp K cp j p w1.heap.size O 0 (fun W => Below wr.heap.size wr W) (by kernel_rfl) rfl ⟨_, rfl, rfl, rfl, rfl, by kernel_rfl⟩ ⟨_, rfl, rfl, rfl, rfl, by kernel_rfl⟩ ⟨_, rfl, rfl, rfl, rfl, by kernel_rfl⟩ ⟨_, rfl, rfl, rfl, rfl, by kernel_rfl⟩ ⟨_, rfl, rfl, rfl, rfl, by kernel_rfl⟩ ⟨_, rfl, rfl, rfl, rfl, by kernel_rfl⟩ ⟨_, rfl, rfl, rfl, rfl, by kernel_rfl⟩ ⟨_, rfl, rfl, rfl, rfl, by kernel_rfl⟩ ⟨_, rfl, rfl, rfl, rfl, by kernel_rfl⟩ ⟨_, rfl, rfl, rfl, rfl, by kernel_rfl⟩ ⟨_, rfl, rfl, rfl, rfl, by kernel_rfl⟩ ⟨_, rfl, rfl, rfl, rfl, by kernel_rfl⟩ ⟨_, rfl, rfl, rfl, rfl, by kernel_rfl⟩ ⟨_, rfl, rfl, rfl, rfl, by kernel_rfl⟩ ⟨_, rfl, rfl, rfl, rfl, by kernel_rfl⟩ ⟨_, rfl, rfl, rfl, rfl, by kernel_rfl⟩ ⟨_, rfl, rfl, rfl, rfl, by kernel_rfl⟩ ⟨_, rfl, rfl, rfl, rfl, by kernel_rfl⟩ ⟨_, rfl, rfl, rfl, rfl, by kernel_rfl⟩ ⟨_, rfl, rfl, rfl, rfl, by kernel_rfl⟩ ⟨_, rfl, rfl, rfl, rfl, by kernel_rfl⟩ ⟨_, rfl, rfl, rfl, rfl, by kernel_rfl⟩ (Below.refl _ _).drew (run_index32 _ _ _ _ hltK) (fun W hb => run_load3 (cp' W hb)) (run_index23 _ _ _ _ pj) (fun W hb => run_load22 (cx W hb)) (run_index32 _ _ _ _ hltK) (fun W hb => run_load3 (cp' W hb)) (run_index23 _ _ _ _ pj) (fun W hb => run_load22 (cy W hb)) (fun W hb => (ko W hb).mono fun e w' ⟨⟨b, bc, q1, q2, q3⟩, q5⟩ => ⟨b, n5, bc, q1, q2, (fun z hz q => by have := q3 z hz; have := hb.size; omega), q5, below_then hb q5⟩) rfl rfl rfl rfl rfl rfl (Nat.le_of_ble_eq_true rfl) ?_
      intro a W9 hs hd hkp hS9 hval
      have e20 : a.tmps.getD 20 undef = .int .i64 0 := hval 21 20 (by decide) rfl
      obtain ⟨b9, n9, c9, e19, f19, z19⟩ := hval 20 19 (by decide) rfl
      have ep := frame_puts [70, 71, 72, 73, 74, 75, 76, 77, 78, 79, 80, 81, 82, 83, 84, 85, 86, 69, 87, 88, 19, 20] hs hd (fun s h => hkp s (fun i hi e => h (by
        rcases (show i = 0 ∨ i = 1 ∨ i = 2 ∨ i = 3 ∨ i = 4 ∨ i = 5 ∨ i = 6 ∨ i = 7 ∨ i = 8 ∨ i = 9 ∨ i = 10 ∨ i = 11 ∨ i = 12 ∨ i = 13 ∨ i = 14 ∨ i = 15 ∨ i = 16 ∨ i = 17 ∨ i = 18 ∨ i = 19 ∨ i = 20 ∨ i = 21 by omega) with rfl | rfl | rfl | rfl | rfl | rfl | rfl | rfl | rfl | rfl | rfl | rfl | rfl | rfl | rfl | rfl | rfl | rfl | rfl | rfl | rfl | rfl <;> (simp only [rpD, Option.some.injEq] at e; subst e; simp))))
      simp only [List.foldl] at ep
      rw [e20] at ep
      rw [e19] at ep
      have H9 := hidden_ hS9
      clear hs hd hkp hval hS9 e20 e19
      generalize a.tmps.getD 70 undef = g70 at ep
      generalize a.tmps.getD 71 undef = g71 at ep
      generalize a.tmps.getD 72 undef = g72 at ep
      generalize a.tmps.getD 73 undef = g73 at ep
      generalize a.tmps.getD 74 undef = g74 at ep
      generalize a.tmps.getD 75 undef = g75 at ep
      generalize a.tmps.getD 76 undef = g76 at ep
      generalize a.tmps.getD 77 undef = g77 at ep
      generalize a.tmps.getD 78 undef = g78 at ep
      generalize a.tmps.getD 79 undef = g79 at ep
      generalize a.tmps.getD 80 undef = g80 at ep
      generalize a.tmps.getD 81 undef = g81 at ep
      generalize a.tmps.getD 82 undef = g82 at ep
      generalize a.tmps.getD 83 undef = g83 at ep
      generalize a.tmps.getD 84 undef = g84 at ep
      generalize a.tmps.getD 85 undef = g85 at ep
      generalize a.tmps.getD 86 undef = g86 at ep
      generalize a.tmps.getD 69 undef = g69 at ep
      generalize a.tmps.getD 87 undef = g87 at ep
      generalize a.tmps.getD 88 undef = g88 at ep
      simp only [Act.put, List.setIfInBounds_toArray, List.set_cons_succ, List.set_cons_zero] at ep
      subst ep
      obtain rfl : n9 = n5 := f19.len.symm.trans ol
      have hS : Below wr.heap.size wr W9 := H9.out
      have ho9 := own_below ho hS
      have hb9 := below_then hbr hS
      clear H9 hS ho hbr ko cx cy cp' bw
      rename_i wr0 _
      go_wp2
      go_loopw [21] (fun i wr => ∃ q : Nat, q ≤ n9 ∧ i = .int .i64 q ∧ Below w1.heap.size w1 wr ∧ Reads .i64 wr b9 n9 O ∧ ∃ ds, wr.ownsRow w1.heap.size 2 1 (.slice (some ⟨w1.heap.size, 0, none⟩) n9 n9) n9 ds ∧ ∀ i, i < n9 → ds[i]? = some (.int .i64 (blendTo (fun j => SS.getD j 0) (rowsL ro U D xs) i (if i < q then j + 1 else j)))) (fun i _ => n9 - (intOf i).toNat)
      case atStart => exact ⟨0, Nat.zero_le _, rfl, hb9, f19, _, ho9, fun i hi' => by rw [if_neg (by omega)]; exact hcs i hi'⟩
      case round =>
        clear ho9 hb9 f19 hcs
        obtain ⟨q, hq, rfl, hbq, hrO, ds, hoq, hds⟩ := hrel
        by_cases hltq : q < n9
        · obtain ⟨b9', rfl⟩ := hrO.some_ (by omega)
          have hlenq := own_length hoq
          have hdq := hds q hltq
          rw [if_neg (Nat.lt_irrefl q)] at hdq
          have cB : wr.drew.cell? ⟨w1.heap.size, q, none⟩ = some (.int .i64 (blendTo (fun j => SS.getD j 0) (rowsL ro U D xs) q j)) := (hoq.cellAt q (by omega)).trans hdq
          have froz : wr.drew.frozen? ⟨w1.heap.size, q, none⟩ = false := hoq.frozenAt q
          have cS : wr.drew.cell? (tq.add j) = some (.int .i64 (SS.getD j 0)) := (hrs.below hbq).cell tq rfl j hltK
          have cY : wr.drew.cell? (b9'.add q) = some (.int .i64 (O.getD q 0)) := hrO.cell b9' rfl q hltq
          have pb := prodM_bounds _ _ (hsb j) (ob q)
          have wS := wf_blendTo (fun j => SS.getD j 0) (rowsL ro U D xs) q j
          have es : blendTo (fun j => SS.getD j 0) (rowsL ro U D xs) q (j + 1) = addZ (blendTo (fun j => SS.getD j 0) (rowsL ro U D xs) q j) (SS.getD j 0 * O.getD q 0) := by rw [← EO.out]; rfl
          obtain ⟨X0, e0⟩ : ∃ X0, blendTo (fun j => SS.getD j 0) (rowsL ro U D xs) q j = X0 := ⟨_, rfl⟩
          obtain ⟨X1, e1⟩ : ∃ X1, SS.getD j 0 = X1 := ⟨_, rfl⟩
          obtain ⟨X2, e2⟩ : ∃ X2, O.getD q 0 = X2 := ⟨_, rfl⟩
          rw [e0] at cB wS
          rw [e1] at cS pb
          rw [e2] at cY pb
          rw [e0, e1, e2] at es
          obtain ⟨X3, e3⟩ : ∃ X3, X1 * X2 = X3 := ⟨_, rfl⟩
          rw [e3] at pb es
          have p30 : -9223372036854775808 ≤ X3 := by omega
          have p31 : X3 ≤ 9223372036854775807 := by omega
          have ka := fun W => refAdd_call X0 X3 wS (WalkArith.wf_i64 ⟨p30, p31⟩) W
          obtain ⟨X4, e4⟩ : ∃ X4, addZ X0 X3 = X4 := ⟨_, rfl⟩
          rw [e4] at ka es
          have Rb : Below w1.heap.size w1 (wr.drew.setCell ⟨w1.heap.size, q, none⟩ (.int .i64 X4)) := (hbq.drew).setCell (Nat.le_refl _) _
          have Ro : Reads .i64 (wr.drew.setCell ⟨w1.heap.size, q, none⟩ (.int .i64 X4)) (some b9') n9 O := (hrO.drewN 1).setOff (fun e => z19 b9' rfl e.symm) _
          have R' := hidden_ (And.intro Rb (And.intro Ro (And.intro (show (wr.drew.setCell ⟨w1.heap.size, q, none⟩ (.int .i64 X4)).ownsRow w1.heap.size 2 1 (.slice (some ⟨w1.heap.size, 0, none⟩) n9 n9) n9 (ds.set q (.int .i64 X4)) from ((own_drew hoq).stored q _).1) (show ∀ i, i < n9 → (ds.set q (Value.int .i64 X4))[i]? = some (.int .i64 (blendTo (fun j => SS.getD j 0) (rowsL ro U D xs) i (if i < q + 1 then j + 1 else j))) from by
            intro i hi'
            by_cases e : i = q
            · subst e
              rw [if_pos (by omega), es]
              simp [hlenq, hltq]
            · rw [List.getElem?_set_ne (by omega), hds i hi']
              by_cases hiq : i < q
              · rw [if_pos hiq, if_pos (by omega)]
              · rw [if_neg hiq, if_neg (by omega)]))))
          clear es e0 e1 e2 e4 wS pb hdq hds hoq hrO hbq hlenq Rb Ro
          go_wp2
          refine rs_region tq b9' w1.heap.size K n9 cq c9 j q X0 X1 X2 X3 X4 (fun W => W = wr.drew) (by kernel_rfl) rfl ⟨_, rfl, rfl, rfl, rfl, by kernel_rfl⟩ ⟨_, rfl, rfl, rfl, rfl, by kernel_rfl⟩ ⟨_, rfl, rfl, rfl, rfl, by kernel_rfl⟩ ⟨_, rfl, rfl, rfl, rfl, by kernel_rfl⟩ ⟨_, rfl, rfl, rfl, rfl, by kernel_rfl⟩ ⟨_, rfl, rfl, rfl, rfl, by kernel_rfl⟩ ⟨_, rfl, rfl, rfl, rfl, by kernel_rfl⟩ ⟨_, rfl, rfl, rfl, rfl, by kernel_rfl⟩ ⟨_, rfl, rfl, rfl, rfl, by kernel_rfl⟩ ⟨_, rfl, rfl, rfl, rfl, by kernel_rfl⟩ ⟨_, rfl, rfl, rfl, rfl, by kernel_rfl⟩ ⟨_, rfl, rfl, rfl, rfl, by kernel_rfl⟩ ⟨_, rfl, rfl, rfl, rfl, by kernel_rfl⟩ ⟨_, rfl, rfl, rfl, rfl, by kernel_rfl⟩ ⟨_, rfl, rfl, rfl, rfl, by kernel_rfl⟩ ⟨_, rfl, rfl, rfl, rfl, by kernel_rfl⟩ ⟨_, rfl, rfl, rfl, rfl, by kernel_rfl⟩ ⟨_, rfl, rfl, rfl, rfl, by kernel_rfl⟩ rfl (run_index24l _ _ _ _ hltq) (fun W hW => by rw [hW]; exact run_load2 cB) (run_index24 _ _ _ _ hltK) (fun W hW => by rw [hW]; exact run_load2 cS) (run_index24 _ _ _ _ hltq) (fun W hW => by rw [hW]; exact run_load2 cY) (run_mul2 _ _ _ e3 p30 p31) (fun W _ => ka W) (run_index24l _ _ _ _ hltq) rfl rfl rfl rfl rfl (Nat.le_of_ble_eq_true rfl) ?_
          intro a W9 hs hd hkp hS9 hval
          have e113 : a.tmps.getD 113 undef = .int .i64 X4 := hval 15 113 (by decide) rfl
          have e114 : a.tmps.getD 114 undef = .pointer (some ⟨w1.heap.size, q, none⟩) := hval 16 114 (by decide) rfl
          have hW9 : W9 = wr.drew := hS9
          subst hW9
          rw [e113, e114]
          refine ⟨_, run_store2 cB froz, ?_⟩
          have ep := frame_puts [98, 99, 100, 101, 102, 103, 104, 105, 106, 107, 108, 109, 110, 111, 112, 113, 114] hs hd (fun s h => hkp s (fun i hi e => h (by
            rcases (show i = 0 ∨ i = 1 ∨ i = 2 ∨ i = 3 ∨ i = 4 ∨ i = 5 ∨ i = 6 ∨ i = 7 ∨ i = 8 ∨ i = 9 ∨ i = 10 ∨ i = 11 ∨ i = 12 ∨ i = 13 ∨ i = 14 ∨ i = 15 ∨ i = 16 ∨ i = 17 by omega) with rfl | rfl | rfl | rfl | rfl | rfl | rfl | rfl | rfl | rfl | rfl | rfl | rfl | rfl | rfl | rfl | rfl | rfl <;> (simp only [rsD, Option.some.injEq] at e; first | (subst e; simp) | cases e))))
          simp only [List.foldl] at ep
          rw [e113] at ep
          rw [e114] at ep
          clear hs hd hkp hval hS9 e113 e114
          generalize a.tmps.getD 98 undef = g98 at ep
          generalize a.tmps.getD 99 undef = g99 at ep
          generalize a.tmps.getD 100 undef = g100 at ep
          generalize a.tmps.getD 101 undef = g101 at ep
          generalize a.tmps.getD 102 undef = g102 at ep
          generalize a.tmps.getD 103 undef = g103 at ep
          generalize a.tmps.getD 104 undef = g104 at ep
          generalize a.tmps.getD 105 undef = g105 at ep
          generalize a.tmps.getD 106 undef = g106 at ep
          generalize a.tmps.getD 107 undef = g107 at ep
          generalize a.tmps.getD 108 undef = g108 at ep
          generalize a.tmps.getD 109 undef = g109 at ep
          generalize a.tmps.getD 110 undef = g110 at ep
          generalize a.tmps.getD 111 undef = g111 at ep
          generalize a.tmps.getD 112 undef = g112 at ep
          simp only [Act.put, List.setIfInBounds_toArray, List.set_cons_succ, List.set_cons_zero] at ep
          subst ep
          go_wp2
          go_roundw
          case rel => exact ⟨q + 1, by omega, by go_num, R'.out.1, R'.out.2.1, _, R'.out.2.2.1, R'.out.2.2.2⟩
          case measure => simp [intOf]; omega
        · have e : q = n9 := by omega
          subst e
          have R' := hidden_ (And.intro hbq (And.intro hoq (show ∀ i, i < q → ds[i]? = some (.int .i64 (blendTo (fun j => SS.getD j 0) (rowsL ro U D xs) i (j + 1))) from fun i hi' => by rw [hds i hi', if_pos hi'])))
          clear hds hoq hbq hrO
          go_wp2
          go_roundw
          case rel => exact ⟨j + 1, by omega, by go_num, R'.out.1, _, R'.out.2.1, R'.out.2.2⟩
          case measure => simp [intOf]; omega
    · have e : j = K := by omega
      subst e
      rename World => W2
      have bw := below_then hb1 hbr
      clear hrp hat hlt' hall' g1 g2 hrs
      go_wp2
      go_loopw [22] (fun i wr => ∃ q : Nat, q ≤ n5 ∧ i = .int .i64 q ∧ Below w1.heap.size w1 wr ∧ ∃ ds, wr.ownsRow w1.heap.size 2 1 (.slice (some ⟨w1.heap.size, 0, none⟩) n5 n5) n5 ds ∧ (∀ i, i < q → ds[i]? = some (.int .i64 (blendZ (fun j => SS.getD j 0) (rowsL ro U D xs) j i))) ∧ ∀ i, q ≤ i → i < n5 → ds[i]? = some (.int .i64 (blendTo (fun j => SS.getD j 0) (rowsL ro U D xs) i j))) (fun i _ => n5 - (intOf i).toNat)
      case atStart => exact ⟨0, Nat.zero_le _, rfl, hbr, _, ho, fun i hi' => by omega, fun i _ hi' => hcs i hi'⟩
      case round =>
        clear ho hcs hbr
        obtain ⟨q, hq, rfl, hbq, ds, hoq, hd1, hd2⟩ := hrel
        by_cases hltq : q < n5
        · have hlen := own_length hoq
          have cell : wr.cell? ⟨w1.heap.size, q, none⟩ = some (.int .i64 (blendTo (fun j => SS.getD j 0) (rowsL ro U D xs) q j)) := (hoq.cellAt q (by omega)).trans (hd2 q (Nat.le_refl _) hltq)
          have froz := hoq.frozenAt q
          have wS := wf_blendTo (fun j => SS.getD j 0) (rowsL ro U D xs) q j
          have ez : blendZ (fun j => SS.getD j 0) (rowsL ro U D xs) j q = clampZ (shiftZ (blendTo (fun j => SS.getD j 0) (rowsL ro U D xs) q j) 16) := rfl
          obtain ⟨X0, e0⟩ : ∃ X0, blendTo (fun j => SS.getD j 0) (rowsL ro U D xs) q j = X0 := ⟨_, rfl⟩
          rw [e0] at cell wS ez
          have ks := fun W => refShift_call X0 16 wS (by decide) W
          obtain ⟨X1, e1⟩ : ∃ X1, shiftZ X0 16 = X1 := ⟨_, rfl⟩
          have kc := fun W => refClamp_call X1 W
          rw [e1] at ks ez
          obtain ⟨X2, e2⟩ : ∃ X2, clampZ X1 = X2 := ⟨_, rfl⟩
          rw [e2] at kc ez
          have R' := hidden_ (And.intro (hbq.setCell (p := ⟨w1.heap.size, q, none⟩) (Nat.le_refl _) (.int .i64 X2)) (And.intro (hoq.stored q (.int .i64 X2)).1 (And.intro (set_step (F := fun i => Value.int .i64 (blendZ (fun j => SS.getD j 0) (rowsL ro U D xs) j i)) hlen hltq (show Value.int .i64 X2 = .int .i64 (blendZ (fun j => SS.getD j 0) (rowsL ro U D xs) j q) by rw [ez]) hd1) (show ∀ i, q + 1 ≤ i → i < n5 → (ds.set q (Value.int .i64 X2))[i]? = some (.int .i64 (blendTo (fun j => SS.getD j 0) (rowsL ro U D xs) i j)) from fun i h hi' => by rw [List.getElem?_set_ne (by omega)]; exact hd2 i (by omega) hi'))))
          clear ez e0 e1 e2 hd1 hd2 hoq hbq hlen wS
          go_wp2_with (first
            | (go_at_call 26; refine (ks _).mono ?_; rintro e w' ⟨rfl, hq'⟩; obtain rfl := hq'.symm)
            | (go_at_call 25; refine (kc _).mono ?_; rintro e w' ⟨rfl, hq'⟩; obtain rfl := hq'.symm))
          go_roundw
          case rel => exact ⟨q + 1, by omega, by go_num, R'.out.1, _, R'.out.2.1, R'.out.2.2.1, R'.out.2.2.2⟩
          case measure => simp [intOf]; omega
        · have e : q = n5 := by omega
          subst e
          have fin := own_reads_at (zs := sumL ro U D (j : Int) xs) hoq hsl (wf_sumL _ _ _ _ _) (fun i hi' => by
            rw [hd1 i hi', hsa i hi', ← ESS.out]
            rfl)
          clear hd1 hd2 hoq
          go_wp2
          go_ret2
          exact ⟨⟨_, _, rfl, fin⟩, below_then hb1 hbq⟩
end

/- What networks make of a row, whatever comes: the contract of the document's call. -/
section
open Go.ChangeShapes Go.WideShapes Go.ChangeAt Go.RowKit
set_option linter.unusedVariables false
set_option linter.unusedSimpArgs false

theorem refMix_call (a0 : Option Addr) (n0 c0 : Nat) (ro : List Int) (a1 : Option Addr) (n c1 : Nat) (A1 : Nat → Option Addr) (C1 : Nat → Nat) (U : Nat → List Int) (a2 : Option Addr) (m c2 : Nat) (A2 : Nat → Option Addr) (C2 : Nat → Nat) (D : Nat → List Int) (h k : Int) (a5 : Option Addr) (n5 c5 : Nat) (xs : List Int) (w : World) (h0 : Reads .i8 w a0 n0 ro) (l0 : n0 ≤ c0) (g1 : Nets w a1 n A1 C1 U) (g2 : Nets w a2 m A2 C2 D) (h5 : Reads .i64 w a5 n5 xs) (wh : (Lit.int .i64 h).wf = true) (wk : (Lit.int .i64 k).wf = true) (b0 : n0 * 8 ≤ 140737488355328) (b1 : n * 24 ≤ 140737488351232) (b5 : n5 * 8 ≤ 140737488355328) :
    Calls Try.prog 11 #[.slice a0 n0 c0, .slice a1 n c1, .slice a2 m c2, .int .i64 h, .int .i64 k, .slice a5 n5 c5] w fun e w' => (∃ a j c, e = .returned (.tuple #[.slice a j c, .int .i64 (mixE ro n m U D h k xs)]) ∧ Reads .i64 w' a j (mixR ro n m U D h k xs)) ∧ Below w.heap.size w w' := by
  have non : ∀ {f : Int}, ¬ f = 0 → (Calls Try.prog 11 #[.slice a0 n0 c0, .slice a1 n c1, .slice a2 m c2, .int .i64 h, .int .i64 k, .slice a5 n5 c5] w fun e w' => e = .returned (.tuple #[.slice none 0 0, .int .i64 f]) ∧ Below w.heap.size w w') → mixE ro n m U D h k xs = f →
      Calls Try.prog 11 #[.slice a0 n0 c0, .slice a1 n c1, .slice a2 m c2, .int .i64 h, .int .i64 k, .slice a5 n5 c5] w fun e w' => (∃ a j c, e = .returned (.tuple #[.slice a j c, .int .i64 (mixE ro n m U D h k xs)]) ∧ Reads .i64 w' a j (mixR ro n m U D h k xs)) ∧ Below w.heap.size w w' := by
    intro f hf hc he
    unfold mixR
    rw [he, if_neg hf]
    exact hc.mono fun e w' ⟨he, hb⟩ => ⟨⟨none, 0, 0, he, Reads.nil _ _⟩, hb⟩
  by_cases c1' : n = 0 ∨ n ≠ m
  · exact non (f := 21) (by decide) ((refMix_shape a0 n0 c0 ro a1 n c1 A1 C1 U a2 m c2 A2 C2 D h k a5 n5 c5 xs w h0 l0 g1 g2 h5 wh wk b0 b1 b5 c1').mono fun e w' ⟨he, hw⟩ => ⟨he, hw ▸ Below.refl _ _⟩) (by unfold mixE; rw [if_pos c1'])
  · have hm : n = m := by omega
    by_cases c2' : n = 1
    · have e1 : mixE ro n m U D h k xs = if oneB (U 0) (D 0) h xs then 0 else 21 := by unfold mixE; rw [if_neg c1', if_pos c2']
      have e2 : mixR ro n m U D h k xs = if oneB (U 0) (D 0) h xs then oneL (U 0) (D 0) xs else [] := by
        unfold mixR mixL
        rw [e1, if_pos c2']
        cases oneB (U 0) (D 0) h xs <;> rfl
      rw [e1, e2]
      exact refMix_one a0 n0 c0 ro a1 n c1 A1 C1 U a2 m c2 A2 C2 D h k a5 n5 c5 xs w h0 l0 g1 g2 h5 wh wk b0 b1 b5 c2' (by omega)
    · cases hf : routeB ro n k xs with
      | false => exact non (routeE_ne hf) (refMix_route_no a0 n0 c0 ro a1 n c1 A1 C1 U a2 m c2 A2 C2 D h k a5 n5 c5 xs w h0 l0 g1 g2 h5 wh wk b0 b1 b5 (by omega) hm hf) (by unfold mixE; rw [if_neg c1', if_neg c2', if_pos hf])
      | true =>
        cases hr : restB ro U D h k.toNat xs with
        | true =>
          have e1 : mixE ro n m U D h k xs = 0 := by unfold mixE; rw [if_neg c1', if_neg c2', if_neg (by rw [hf]; decide), hr]; rfl
          unfold mixR mixL
          rw [e1, if_pos rfl, if_neg c2']
          exact (refMix_yes a0 n0 c0 ro a1 n c1 A1 C1 U a2 m c2 A2 C2 D h k a5 n5 c5 xs w h0 l0 g1 g2 h5 wh wk b0 b1 b5 (by omega) hm hf hr).mono fun e w' ⟨⟨a, c, he, hr⟩, hb⟩ => ⟨⟨a, n5, c, he, hr⟩, hb⟩
        | false => exact non (f := 21) (by decide) (refMix_rest_no a0 n0 c0 ro a1 n c1 A1 C1 U a2 m c2 A2 C2 D h k a5 n5 c5 xs w h0 l0 g1 g2 h5 wh wk b0 b1 b5 (by omega) hm hf hr) (by unfold mixE; rw [if_neg c1', if_neg c2', if_neg (by rw [hf]; decide), hr]; rfl)
end

end Go.Proofs.Ytlpmndlefbghoaa
