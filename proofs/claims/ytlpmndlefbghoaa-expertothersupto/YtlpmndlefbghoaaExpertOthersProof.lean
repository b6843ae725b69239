/- For every case of networks, a router and a row and every weights that are put in the place of the networks that the program's Route does not name, of together at most 1048576 values, what the program's Mix makes of the row, and its error, stay as they are; where Route refuses, or there are not as many downs as ups, Mix refuses. -/
import Derived.Test.YtlpmndlefbghoaaRows
import Derived.Test.YtlpmndlefbghoaaView
import Derived.Test.YtlpmndlefbghoaaOwn
import Derived.Test.YtlpmndlefbghoaaSteps
import Derived.Test.YtlpmndlefbghoaaWhere
import Derived.Test.YtlpmndlefbghoaaGrids
import Derived.Test.YtlpmndlefbghoaaSame
import Derived.Test.YtlpmndlefbghoaaSameI
import Derived.Test.YtlpmndlefbghoaaInvIn
import Derived.Test.YtlpmndlefbghoaaHeld
import Derived.Test.YtlpmndlefbghoaaXpNeed
import Derived.Test.YtlpmndlefbghoaaAskZ
import Derived.Test.YtlpmndlefbghoaaXpRouteZ
import Derived.Test.YtlpmndlefbghoaaXpRouteF
import Derived.Test.YtlpmndlefbghoaaXpMixZ
import Derived.Test.YtlpmndlefbghoaaMixZ
import Derived.Test.YtlpmndlefbghoaaXpGridB
import Derived.Test.YtlpmndlefbghoaaRegZ
import Derived.Test.YtlpmndlefbghoaaXpRegE
import Derived.Test.YtlpmndlefbghoaaXpRegO
import Derived.Test.YtlpmndlefbghoaaCaseZ
import Derived.Test.YtlpmndlefbghoaaXpWorks
import Derived.Test.YtlpmndlefbghoaaXpOthersZ
import Derived.Test.YtlpmndlefbghoaaXpTwo
import Derived.WalkKit
import Derived.ProofKit
import Derived.OpenShut
import Derived.ChangeOld
import Derived.Below
import Derived.WalkLawsBesides
import Derived.ChangeMaps5
import Derived.JoinedCond
namespace Go.Proofs.Ytlpmndlefbghoaa.expertOthers
open Go.ChangeShapes Go.WideShapes Go.ChangeAt Go.RowKit
set_option linter.unusedVariables false
set_option linter.unusedSimpArgs false

theorem own : ownKnob Try.prog.godebug = none := by kernel_rfl
theorem laidOut : laidOutB Try.prog = true := by kernel_rfl


set_option maxHeartbeats 8000000 in
set_option maxRecDepth 100000 in
theorem walk (C0 : CaseV) (a1 : Option Addr) (n1 c1 : Nat) (z1 : List Int) (w : World) (w0 : CaseAt w C0) (w1 : Reads .i8 w a1 n1 z1) (e1 : a1 = none → c1 = 0) (l1 : n1 ≤ c1) (b1 : n1 ≤ 1048576) :
    Calls Try.prog 6 #[C0.v, .slice a1 n1 c1] w fun e w' => e = .returned (.bool true) ∧ Below w.heap.size w w' := by
  obtain ⟨ra, rn, rc, rz, ua, un, uc, UA, UC, U, da, dn, dc, DA, DC, D, h, k, xa, xn, xc, xz⟩ := C0
  obtain ⟨r, re, rl, rb, u, ub, d, db, wh, wk, x, xe, xl, xb⟩ := w0
  dsimp only at r re rl rb u ub d db wh wk x xe xl xb
  show Calls Try.prog 6 #[.agg #[.slice ra rn rc, .slice ua un uc, .slice da dn dc, .int .i64 h, .int .i64 k, .slice xa xn xc], .slice a1 n1 c1] w _
  have kg := fun W => great_call ra rn rc ua un uc da dn dc h k xa xn xc W rb ub db
  have hnot : ∀ (x : Bool) (w : World), (Op.unary .not (.bool x)).run Try.prog w = .ok (.bool (!x)) w := fun _ _ => rfl
  by_cases hg : greatB un dn rn = true
  · rw [hg] at kg
    go_enter Try.func6, Try.ntmps6
    go_wp2_with (first
    | (go_at_call 18; refine (works_call _).mono ?_; rintro e W0 ⟨rfl, d0⟩; obtain ⟨q0, q1, q2, q3, q4, q5, -⟩ := case_cells d0)
    | (go_at_call 8; refine (kg _).mono ?_; rintro e W1 ⟨rfl, d1'⟩; have d1 := below_then d0 d1'; clear d1' q0 q1 q2 q3 q4 q5; obtain ⟨q0, q1, q2, q3, q4, q5, hB1⟩ := case_cells d1))
    go_ret
    exact ⟨rfl, hB1⟩
  rw [Bool.not_eq_true] at hg
  rw [hg] at kg
  clear hg
  by_cases hn2 : un < 2
  · have p1 : (un : Int) < 2 := by omega
    go_enter Try.func6, Try.ntmps6
    go_wp2_with (first
    | (go_at_call 18; refine (works_call _).mono ?_; rintro e W0 ⟨rfl, d0⟩; obtain ⟨q0, q1, q2, q3, q4, q5, -⟩ := case_cells d0)
    | (go_at_call 8; refine (kg _).mono ?_; rintro e W1 ⟨rfl, d1'⟩; have d1 := below_then d0 d1'; clear d1' q0 q1 q2 q3 q4 q5; obtain ⟨q0, q1, q2, q3, q4, q5, hB1⟩ := case_cells d1))
    go_ret
    exact ⟨rfl, hB1⟩
  have p1 : ¬ (un : Int) < 2 := by omega
  have hn1 : 1 < un := by omega
  have wU : (Lit.int .i64 (un : Int)).wf = true := WalkArith.wf_i64 ⟨by omega, by omega⟩
  have k9 := fun (W : World) (h0 : Reads .i8 W ra rn rz) (g1 : Nets W ua un UA UC U) (g2 : Nets W da dn DA DC D) (h5 : Reads .i64 W xa xn xz) => Mix_call ra rn rc rz ua un uc UA UC U da dn dc DA DC D h k xa xn xc xz W h0 rl g1 g2 h5 wh wk (by omega) (by omega) (by omega)
  by_cases hbad : routeB rz (un : Int) k xz = false ∨ un ≠ dn
  · have hE := mix_refused U D h hn1 hbad
    have k12 := fun (W : World) (h0 : Reads .i8 W ra rn rz) (h5 : Reads .i64 W xa xn xz) => Route_call ra rn rc rz un k xa xn xc xz W h0 rl h5 wU wk (by omega)
    have h0' : ¬ routeE rz (un : Int) k xz = 0 ∨ un ≠ dn := hbad.imp (fun q => routeE_ne q) id
    generalize mixE rz un dn U D h k xz = EE at k9 hE
    generalize mixR rz un dn U D h k xz = LL at k9
    generalize routeE rz (un : Int) k xz = ER at k12 h0'
    generalize rtP rz (un : Int) k xz = LP at k12
    generalize rtS rz (un : Int) k xz = LS at k12
    have p3 : (EE != 0) = true := by simp [hE]
    clear hE hbad
    by_cases hR : ER = 0
    · have p4 : ((un : Int) != (dn : Int)) = true := by
        have : un ≠ dn := h0'.resolve_left (fun q => q hR)
        simp; omega
      subst hR
      clear h0'
      go_enter Try.func6, Try.ntmps6
      go_wp2_with (first
    | (go_at_call 18; refine (works_call _).mono ?_; rintro e W0 ⟨rfl, d0⟩; obtain ⟨q0, q1, q2, q3, q4, q5, -⟩ := case_cells d0)
    | (go_at_call 8; refine (kg _).mono ?_; rintro e W1 ⟨rfl, d1'⟩; have d1 := below_then d0 d1'; clear d1' q0 q1 q2 q3 q4 q5; obtain ⟨q0, q1, q2, q3, q4, q5, hB1⟩ := case_cells d1)
    | (go_at_call 12; refine (k12 W1 (r.below hB1) (x.below hB1)).mono ?_; rintro e W2 ⟨⟨lp, lm, lc, lq, ln, ld, rfl, f5, -⟩, d2'⟩; have d2 := below_then d1 d2'; clear d2' q0 q1 q2 q3 q4 q5 hB1 k12; obtain ⟨q0, q1, q2, q3, q4, q5, hB2⟩ := case_cells d2)
    | (go_at_call 9; refine (k9 W2 (r.below hB2) (u.below hB2) (d.below hB2) (x.below hB2)).mono ?_; rintro e W3 ⟨⟨p8, m8, s8, rfl, f8⟩, d3'⟩; have d3 := below_then d2 d3'; clear d3' q0 q1 q2 q3 q4 q5 hB2 k9; obtain ⟨q0, q1, q2, q3, q4, q5, hB3⟩ := case_cells d3))
      go_ret
      exact ⟨by simp [p3], hB3⟩
    · have p4 : (ER != 0) = true := by simp [hR]
      clear h0' hR
      go_enter Try.func6, Try.ntmps6
      go_wp2_with (first
    | (go_at_call 18; refine (works_call _).mono ?_; rintro e W0 ⟨rfl, d0⟩; obtain ⟨q0, q1, q2, q3, q4, q5, -⟩ := case_cells d0)
    | (go_at_call 8; refine (kg _).mono ?_; rintro e W1 ⟨rfl, d1'⟩; have d1 := below_then d0 d1'; clear d1' q0 q1 q2 q3 q4 q5; obtain ⟨q0, q1, q2, q3, q4, q5, hB1⟩ := case_cells d1)
    | (go_at_call 12; refine (k12 W1 (r.below hB1) (x.below hB1)).mono ?_; rintro e W2 ⟨⟨lp, lm, lc, lq, ln, ld, rfl, f5, -⟩, d2'⟩; have d2 := below_then d1 d2'; clear d2' q0 q1 q2 q3 q4 q5 hB1 k12; obtain ⟨q0, q1, q2, q3, q4, q5, hB2⟩ := case_cells d2)
    | (go_at_call 9; refine (k9 W2 (r.below hB2) (u.below hB2) (d.below hB2) (x.below hB2)).mono ?_; rintro e W3 ⟨⟨p8, m8, s8, rfl, f8⟩, d3'⟩; have d3 := below_then d2 d3'; clear d3' q0 q1 q2 q3 q4 q5 hB2 k9; obtain ⟨q0, q1, q2, q3, q4, q5, hB3⟩ := case_cells d3))
      go_ret
      exact ⟨by simp [p3], hB3⟩
  have hr : routeB rz (un : Int) k xz = true := by
    cases e : routeB rz (un : Int) k xz with
    | true => rfl
    | false => exact absurd (.inl e) hbad
  obtain rfl : un = dn := by
    by_cases e : un = dn
    · exact e
    · exact absurd (.inr e) hbad
  clear hbad
  have k12 := fun (W : World) (h0 : Reads .i8 W ra rn rz) (h5 : Reads .i64 W xa xn xz) => Route_yes ra rn rc rz un k xa xn xc xz W h0 rl h5 wU wk (by omega) hr
  have hat := fun j (q : j < k.toNat) => routeP_at hr q
  have hplt := fun j (q : j < k.toNat) => plc_lt hr q
  have kB := fun (W : World) gu cu gd cd A C R A' C' R' (h0 : Reads .i8 W ra rn rz) (g1 : Nets W (some ⟨gu, 0, none⟩) un A C R) (g2 : Nets W (some ⟨gd, 0, none⟩) un A' C' R') (h5 : Reads .i64 W xa xn xz) => Mix_call ra rn rc rz (some ⟨gu, 0, none⟩) un cu A C R (some ⟨gd, 0, none⟩) un cd A' C' R' h k xa xn xc xz W h0 rl g1 g2 h5 wh wk (by omega) (by omega) (by omega)
  have hsame := fun (R R' : Nat → List Int) (hU : ∀ j, j < k.toNat → R (plc rz xz j) = U (plc rz xz j)) (hD : ∀ j, j < k.toNat → R' (plc rz xz j) = D (plc rz xz j)) => mix_others (h := h) hn1 hr hU hD
  obtain ⟨EE, eE⟩ : ∃ EE, mixE rz un un U D h k xz = EE := ⟨_, rfl⟩
  obtain ⟨LL, eL⟩ : ∃ LL, mixR rz un un U D h k xz = LL := ⟨_, rfl⟩
  obtain ⟨LP, eLP⟩ : ∃ LP, routeP rz k xz = LP := ⟨_, rfl⟩
  obtain ⟨K, eK⟩ : ∃ K, k.toNat = K := ⟨_, rfl⟩
  rw [eE, eL] at k9
  simp only [eE, eL, eK] at hsame
  rw [eLP, eK] at k12
  rw [eLP, eK] at hat
  rw [eK] at hplt
  have ko1 := fun (B : Nat) (W : World) (hN : Nets W ua un UA UC U) (hB : B ≤ W.heap.size) => own_netF ua un uc UA UC U B W hN (by omega) (by omega) hB
  have ko2 := fun (B : Nat) (W : World) (hN : Nets W da un DA DC D) (hB : B ≤ W.heap.size) => own_netF da un dc DA DC D B W hN (by omega) (by omega) hB
  have hz1 := w1.len
  have apz : ∀ g, w.heap.size ≤ g → 0 < z1.length → ∀ x, a1 = some x → x.block ≠ g := fun g hg hl x hx e => by
    have q := World.block_lt_of_cell? w _ (w1.cell x hx 0 (by omega))
    simp [Addr.add] at q
    omega
  have Hs := hidden_ (And.intro hsame (And.intro hat hplt))
  clear eE eL eLP eK hsame hat hplt hr
  go_enter Try.func6, Try.ntmps6
  go_wp2_with (first
    | (go_at_call 18; refine (works_call _).mono ?_; rintro e W0 ⟨rfl, d0⟩; obtain ⟨q0, q1, q2, q3, q4, q5, -⟩ := case_cells d0)
    | (go_at_call 8; refine (kg _).mono ?_; rintro e W1 ⟨rfl, d1'⟩; have d1 := below_then d0 d1'; clear d1' q0 q1 q2 q3 q4 q5; obtain ⟨q0, q1, q2, q3, q4, q5, hB1⟩ := case_cells d1)
    | (go_at_call 12; refine (k12 W1 (r.below hB1) (x.below hB1)).mono ?_; rintro e W2 ⟨⟨lp, lc, lq, ld, rfl, f5, -⟩, d2'⟩; have d2 := below_then d1 d2'; clear d2' q0 q1 q2 q3 q4 q5 hB1 k12; obtain ⟨q0, q1, q2, q3, q4, q5, hB2⟩ := case_cells d2)
    | (go_at_call 9; refine (k9 W2 (r.below hB2) (u.below hB2) (d.below hB2) (x.below hB2)).mono ?_; rintro e W3 ⟨⟨p8, m8, s8, rfl, f8⟩, d3'⟩; have d3 := below_then d2 d3'; replace f5 := f5.below d3'; clear d3' q0 q1 q2 q3 q4 q5 hB2 k9; obtain ⟨q0, q1, q2, q3, q4, q5, hB3⟩ := case_cells d3))
  have cc := fun (W : World) (hb : Below W3.heap.size W3 W) => case_cells (below_then d3 hb)
  clear kg d0 d1 d2 q0 q1 q2 q3 q4 q5
  refine eo_region w.heap.size W3.heap.size un uc un dc ua da U D (fun W => Below W3.heap.size W3 W) (by kernel_rfl) rfl ⟨_, rfl, rfl, rfl, rfl, by kernel_rfl⟩ ⟨_, rfl, rfl, rfl, rfl, by kernel_rfl⟩ ⟨_, rfl, rfl, rfl, rfl, by kernel_rfl⟩ ⟨_, rfl, rfl, rfl, rfl, by kernel_rfl⟩ ⟨_, rfl, rfl, rfl, rfl, by kernel_rfl⟩ ⟨_, rfl, rfl, rfl, rfl, by kernel_rfl⟩ ⟨_, rfl, rfl, rfl, rfl, by kernel_rfl⟩ ⟨_, rfl, rfl, rfl, rfl, by kernel_rfl⟩ (Below.refl _ _).drew (run_field26_1 _) (fun W hb => run_load23 (cc W hb).2.1) (fun W hb => (ko1 W3.heap.size W (u.below (cc W hb).2.2.2.2.2.2) hb.size).mono fun e w' ⟨lo, hi, v, q1, q2, q3, q4⟩ => ⟨lo, hi, v, q1, q2, q3, q4, below_then hb q4⟩) (run_field26_2 _) (fun W hb => run_load23 (cc W hb).2.2.1) (fun W hb => (ko2 W3.heap.size W (d.below (cc W hb).2.2.2.2.2.2) hb.size).mono fun e w' ⟨lo, hi, v, q1, q2, q3, q4⟩ => ⟨lo, hi, v, q1, q2, q3, q4, below_then hb q4⟩) rfl (Nat.le_of_ble_eq_true rfl) ?_
  intro a Wa hs hd hkp hSa hJ
  obtain ⟨lo, hi, lo', hi', ⟨gu, cu, Au, Cu, e10, nu, ou, ul, uh, ur, us⟩, ⟨gd, cd, Ad, Cd, e11, nd, od, dl, dh, dr, ds⟩, hdis⟩ := hJ
  have ep := frame_puts [70, 71, 72, 73, 74, 75, 10, 11] hs hd (fun s h => hkp s (fun i hi e => h (by
    rcases (show i = 0 ∨ i = 1 ∨ i = 2 ∨ i = 3 ∨ i = 4 ∨ i = 5 ∨ i = 6 ∨ i = 7 by omega) with rfl | rfl | rfl | rfl | rfl | rfl | rfl | rfl <;> (simp only [eoD, Option.some.injEq] at e; subst e; simp))))
  simp only [List.foldl] at ep
  rw [e10] at ep
  rw [e11] at ep
  have hgu : W3.heap.size ≤ gu := (ou.own.lt gu rfl).1
  have hgd : W3.heap.size ≤ gd := (od.own.lt gd rfl).1
  have T0 := hidden_ (show Two W3.heap.size Wa un gu cu gd cd Au Cu U Ad Cd D from ⟨ou, od, ⟨nu.cap, nu.nil_, nu.bnd, fun r hr hl y hy => by have := ur r hr hl y hy; omega⟩, ⟨nd.cap, nd.nil_, nd.bnd, fun r hr hl y hy => by have := dr r hr hl y hy; omega⟩, by omega⟩)
  have Sa := hidden_ hSa
  have hne : gu ≠ gd := by omega
  have hw3 : w.heap.size ≤ W3.heap.size := hB3.size
  clear hs hd hkp hSa e10 e11 nu ou ul uh ur us nd od dl dh dr ds hdis ko1 ko2
  generalize a.tmps.getD 70 undef = g70 at ep
  generalize a.tmps.getD 71 undef = g71 at ep
  generalize a.tmps.getD 72 undef = g72 at ep
  generalize a.tmps.getD 73 undef = g73 at ep
  generalize a.tmps.getD 74 undef = g74 at ep
  generalize a.tmps.getD 75 undef = g75 at ep
  simp only [Act.put, List.setIfInBounds_toArray, List.set_cons_succ, List.set_cons_zero] at ep
  subst ep
  go_wp2
  go_loopw [12] (fun i wr => ∃ j : Nat, j ≤ un ∧ i = .int .i64 j ∧ Below W3.heap.size W3 wr ∧ ∃ (A : Nat → Option Addr) (C : Nat → Nat) (R : Nat → List Int) (A' : Nat → Option Addr) (C' : Nat → Nat) (R' : Nat → List Int), Two W3.heap.size wr un gu cu gd cd A C R A' C' R' ∧ (∀ t, inTo LP t K = true → R t = U t ∧ R' t = D t)) (fun i _ => un - (intOf i).toNat)
  case atStart => exact ⟨0, Nat.zero_le _, rfl, Sa.out, _, _, _, _, _, _, T0.out, fun t _ => ⟨rfl, rfl⟩⟩
  case round =>
    clear T0 Sa
    obtain ⟨j, hj, rfl, hbr, A, C, R, A', C', R', T, hRR⟩ := hrel
    rename World => Wc
    by_cases hlt : j < un
    · have f5c := f5.below hbr
      have hK := f5.max
      go_wp2
      go_loopw [13, 14] (fun b i wr => ∃ q : Nat, q ≤ K ∧ i = .int .i64 q ∧ b = .bool (inTo LP j q) ∧ wr = Wc) (fun _ i _ => K - (intOf i).toNat)
      case atStart => exact ⟨0, Nat.zero_le _, rfl, rfl, rfl⟩
      case round =>
        obtain ⟨q, hq, rfl, rfl, hw⟩ := hrel
        subst hw
        by_cases hltq : q < K
        · obtain ⟨y5, rfl⟩ := f5c.some_ (by omega)
          have cy := f5c.cell y5 rfl q hltq
          have es : inTo LP j (q + 1) = (inTo LP j q || (LP.getD q 0 == (j : Int))) := rfl
          obtain ⟨Z, eZ⟩ : ∃ Z, LP.getD q 0 = Z := ⟨_, rfl⟩
          rw [eZ] at cy es
          cases hin : inTo LP j q with
          | true =>
            rw [hin, Bool.true_or] at es
            have Es := hidden_ es
            clear es eZ hin
            go_wp2
            go_roundw
            case rel => exact ⟨q + 1, by omega, by go_num, by rw [Es.out], trivial⟩
            case measure => simp [intOf]; omega
          | false =>
            rw [hin, Bool.false_or] at es
            have Es := hidden_ es
            clear es eZ hin
            go_wp2
            go_roundw
            case rel => exact ⟨q + 1, by omega, by go_num, by rw [Es.out], trivial⟩
            case measure => simp [intOf]; omega
        · have e : q = K := by omega
          subst e
          cases hin : inTo LP j q with
          | true =>
            have R1 := hidden_ (And.intro hbr (And.intro T hRR))
            clear T hRR hbr hin
            go_wp2
            go_roundw
            case rel => exact ⟨j + 1, by omega, by go_num, R1.out.1, _, _, _, _, _, _, R1.out.2.1, R1.out.2.2⟩
            case measure => simp [intOf]; omega
          | false =>
            have c1' : wr.cell? ⟨gu, j, none⟩ = some (.slice (A j) (R j).length (C j)) := (T.u.own.cellAt j (by omega)).trans (by simp [heads, hlt])
            have c2' : wr.cell? ⟨gd, j, none⟩ = some (.slice (A' j) (R' j).length (C' j)) := (T.d.own.cellAt j (by omega)).trans (by simp [heads, hlt])
            have fz1 : wr.frozen? ⟨gu, j, none⟩ = false := T.u.own.frozenAt j
            have fz2 : wr.frozen? ⟨gd, j, none⟩ = false := T.d.own.frozenAt j
            have c3' : (wr.setCell ⟨gu, j, none⟩ (.slice a1 n1 c1)).cell? ⟨gd, j, none⟩ = some (.slice (A' j) (R' j).length (C' j)) := by
              rw [World.cell?_setCell_other _ _ _ _ (fun e => hne (by injection e))]
              exact c2'
            have fz3 : (wr.setCell ⟨gu, j, none⟩ (.slice a1 n1 c1)).frozen? ⟨gd, j, none⟩ = false := by simp [fz2]
            have T2 := T.set hlt (a := a1) (ca := c1) (z := z1) (by rw [hz1]; exact (w1.below hB3).below hbr) (by omega) e1 (by omega) (apz gu (by omega)) (apz gd (by omega))
            rw [hz1] at T2
            have B2 : Below W3.heap.size W3 ((wr.setCell ⟨gu, j, none⟩ (.slice a1 n1 c1)).setCell ⟨gd, j, none⟩ (.slice a1 n1 c1)) := (hbr.setCell (p := ⟨gu, j, none⟩) hgu _).setCell (p := ⟨gd, j, none⟩) hgd _
            have R1 := hidden_ (And.intro B2 (And.intro T2 (show ∀ t, inTo LP t q = true → upd R j z1 t = U t ∧ upd R' j z1 t = D t from fun t ht => by
              have e : t ≠ j := fun e => by rw [e, hin] at ht; cases ht
              rw [upd_off _ _ _ e, upd_off _ _ _ e]
              exact hRR t ht)))
            clear T hRR hbr hin T2 B2 c2' fz2
            go_wp2
            go_roundw
            case rel => exact ⟨j + 1, by omega, by go_num, R1.out.1, _, _, _, _, _, _, R1.out.2.1, R1.out.2.2⟩
            case measure => simp [intOf]; omega
    · have e : j = un := by omega
      subst e
      obtain ⟨nu, nd⟩ := T.nets
      obtain ⟨hsame, hat, hplt⟩ := Hs.out
      have hch : ∀ t, t < K → R (plc rz xz t) = U (plc rz xz t) ∧ R' (plc rz xz t) = D (plc rz xz t) := fun t ht => hRR _ (inTo_of ht (hat t ht))
      obtain ⟨eE, eL⟩ := hsame R R' (fun t ht => (hch t ht).1) (fun t ht => (hch t ht).2)
      obtain ⟨q0, q1, q2, q3, q4, q5, hBr⟩ := cc Wc hbr
      have kb := kB Wc gu cu gd cd A C R A' C' R' (r.below hBr) nu nd (x.below hBr)
      rw [eE, eL] at kb
      replace f8 := f8.below hbr
      clear eE eL hch hsame hat hplt nu nd T hRR kB
      go_wp2_with (first
        | (go_at_call 9; refine kb.mono ?_; rintro e W5 ⟨⟨p15, m15, s15, rfl, f15⟩, d5⟩; replace f8 := f8.below d5; have hB5 := below_then hBr d5; clear d5 q0 q1 q2 q3 q4 q5 hBr kb)
        | (go_at_call 14; refine (same_call _ _ _ LL _ _ _ _ f8 f15).mono ?_; rintro e W6 ⟨rfl, hq⟩; have hB6 := below_drew hB5 hq; clear hq f8 f15 hB5))
      go_ret
      exact ⟨by simp, hB6⟩

theorem contract (H : Type) (enc : TypeId × Value → H) (W : World) (base : Nat) (args : Array Value) (ds gs : List (DataW H)) (before : List MemPlace)
    (hval0 : ∀ (j : Nat) t v, Try.f6.params[j]? = some t → args[j]? = some v → Value.okWide Try.prog W .any base t v)
    (hW : DataW.Whole enc Try.prog Try.f6.params.toList Rows.expertOthersSpec.vars false W args.toList ds gs before)
    (hk : Rows.uptoSmall H (ds ++ gs) = true) :
    Calls Try.prog 6 args W fun e W' => ∃ v, e = .returned v ∧ Rows.expertOthersSpec.post enc Try.prog Try.f6 false true false false W args v W' := by
  have hval : ∀ (j : Nat) t v, Try.f6.params[j]? = some t → args[j]? = some v → Value.okWide Try.prog W .any base t v := hval0
  have hW' := hW
  obtain ⟨p, q, hA0, hV, rfl, hfz, hnd⟩ := hW
  have hA : DataW.TrodAll enc Try.prog W 0 (fun _ => true) true Try.f6.params.toList args.toList ds p := hA0
  rw [Try.params6] at hA hval
  obtain ⟨v0, vs0, d0, ds0, p0, q0, hargs, rfl, rfl, h0, r0⟩ := trodAll_cons hA
  obtain ⟨v1, vs1, d1, ds1, p1, q1, rfl, rfl, rfl, h1, r1⟩ := trodAll_cons r0
  obtain ⟨rfl, rfl, rfl⟩ := trodAll_nil r1
  obtain rfl : args = #[v0, v1] := by cases args; simp_all
  obtain ⟨rfl, rfl⟩ := trodVars_none hV
  have k0 := h0
  have lt0 : ∀ x ∈ p0, x.block < W.heap.size := by obtain ⟨m, hm⟩ := k0; exact DataW.trod_lt m _ _ _ hm
  have bk0 : Rows.uptoBulk d0 ≤ 1048576 := Nat.le_trans (bulk_member _ 0 d0 rfl) (of_decide_eq_true hk)
  obtain ⟨C0, rfl, w0⟩ := open_case (hval 0 26 v0 rfl rfl) h0 bk0
  obtain ⟨a1, n1, c1, rfl⟩ := okWide_slice Try.underlying22 (hval 1 22 v1 rfl rfl)
  have k1 := h1
  have lt1 : ∀ x ∈ p1, x.block < W.heap.size := by obtain ⟨m, hm⟩ := k1; exact DataW.trod_lt m _ _ _ hm
  obtain ⟨z1, w1, e1, l1, s1⟩ : ∃ zs, Reads .i8 W a1 n1 zs ∧ (a1 = none → c1 = 0) ∧ n1 ≤ c1 ∧ (n1 = 0 ∨ ∃ el sp, d1 = .slice el sp ∧ n1 ≤ el.length + sp.length) := by
    obtain ⟨fuel, hf⟩ := h1
    rcases open_ints Try.underlying22 Try.underlying53 (by kernel_rfl) hf with ⟨hcs, hd⟩ | ⟨x, l, c, zs, hcs, _, hl, hm, hz, hd, hcell, hwz⟩
    · simp [Value.cells] at hcs
      obtain ⟨rfl, rfl, rfl⟩ := hcs
      exact ⟨[], Reads.nil _ _, fun _ => rfl, Nat.le_refl _, .inl rfl⟩
    · simp [Value.cells] at hcs
      obtain ⟨rfl, rfl, rfl⟩ := hcs
      exact ⟨_, Reads.of_open hl hm (by simpa using hz) hcell hwz, (fun h => by cases h), hl, .inr ⟨_, _, congrArg Prod.fst hd, open_length (by simpa using hz) hl⟩⟩
  have b1 : n1 ≤ 1048576 := by
    rcases s1 with rfl | ⟨el, sp, rfl, hle⟩
    · decide
    · exact upto_slice hk (j := 1) rfl hle
  clear hA0 hval0
  refine (walk C0 a1 n1 c1 z1 W w0 w1 e1 l1 b1).mono fun e W' ⟨he, bel⟩ => ?_
  subst he
  exact ⟨_, rfl, _, _, _, [], _, [], hW', trodAll_mk1 (shut_bool Try.underlying4 _), (trodAll_cons_mk (Below.trod laidOut (by kernel_rfl) (of_decide_eq_true (by kernel_rfl)) k0 bel lt0) (trodAll_cons_mk (Below.trod laidOut (by kernel_rfl) (of_decide_eq_true (by kernel_rfl)) k1 bel lt1) trodAll_mk0)), rfl, bel.frame _, fun h => by cases h⟩

set_option maxRecDepth 100000 in
theorem lifted (os : Os) (started : os.Started) (H : Type) (enc : TypeId × Value → H) (F : Stop.Interp) :
    ReturnsInHanded {} Try.checked os 6 .any ((Rows.OpenSpec.upto Rows.expertOthersSpec).pre6 enc Try.prog Try.f6 Rows.expertOthersUptoRow.domain false) (((Rows.OpenSpec.upto Rows.expertOthersSpec).at F).post enc Try.prog Try.f6 false true false false) := by
  refine returnsInHanded_of_cond (C := Try.checked) (s := Rows.OpenSpec.upto Rows.expertOthersSpec) (k := Rows.uptoSmall) rfl own started (by kernel_rfl) Try.func6
    (OpenSpec.witness (enc := enc) (C := Try.checked) (s := Rows.OpenSpec.upto Rows.expertOthersSpec) (k := Rows.uptoSmall) rfl false ⟨#[], #[.agg #[.slice none 0 0, .slice none 0 0, .slice none 0 0, .int .i64 0, .int .i64 0, .slice none 0 0], .slice none 0 0], []⟩ 8 (by kernel_rfl) (by kernel_rfl) (by kernel_rfl)
      (x := ([.agg [.nil, .nil, .nil, .lit (.int .i64 0), .lit (.int .i64 0), .nil], .nil], [], [])) (by kernel_rfl) rfl (by kernel_rfl)) ?_
  intro W base args ds gs before hval hW _ hk _
  exact contract H enc W base args ds gs before hval hW hk

theorem over : Rows.expertOthersUptoRow.holds Try.pinned (Rows.OpenSpec.upto Rows.expertOthersSpec) :=
  OpenClaim.holds_of_cond 6 Try.f6 rfl rfl rfl rfl rfl rfl rfl ⟨rfl, rfl, rfl, rfl, rfl⟩ rfl rfl rfl rfl rfl (by kernel_rfl) Try.func6 (by kernel_rfl)
    (of_decide_eq_true (by kernel_rfl)) (by unfold Func.isWrapper; first | (rw [if_pos (by decide +kernel)]; kernel_rfl) | (rw [if_neg (by decide +kernel)]; exact ⟨rfl, rfl⟩))
    (fun os started H enc _ F => lifted os started H enc F)

theorem proved : Rows.ExpertOthersUptoSaid :=
  over
#print axioms proved
end Go.Proofs.Ytlpmndlefbghoaa.expertOthers
