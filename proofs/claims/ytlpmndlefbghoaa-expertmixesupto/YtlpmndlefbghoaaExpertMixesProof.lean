/- For every case of networks, a router and a row, of together at most 1048576 values, what the program's Mix makes of the row, and which of the networks its Route names with what shares, and their errors, are the document's. -/
import Derived.Test.YtlpmndlefbghoaaRows
import Derived.Test.YtlpmndlefbghoaaView
import Derived.Test.YtlpmndlefbghoaaOwn
import Derived.Test.YtlpmndlefbghoaaSteps
import Derived.Test.YtlpmndlefbghoaaSame
import Derived.Test.YtlpmndlefbghoaaSameI
import Derived.Test.YtlpmndlefbghoaaInvIn
import Derived.Test.YtlpmndlefbghoaaHeld
import Derived.Test.YtlpmndlefbghoaaXpNeed
import Derived.Test.YtlpmndlefbghoaaAskZ
import Derived.Test.YtlpmndlefbghoaaXpRouteZ
import Derived.Test.YtlpmndlefbghoaaXpRouteF
import Derived.Test.YtlpmndlefbghoaaDocRoute
import Derived.Test.YtlpmndlefbghoaaXpMixZ
import Derived.Test.YtlpmndlefbghoaaMixZ
import Derived.Test.YtlpmndlefbghoaaDocMix
import Derived.Test.YtlpmndlefbghoaaXpGridB
import Derived.Test.YtlpmndlefbghoaaRegZ
import Derived.Test.YtlpmndlefbghoaaXpRegE
import Derived.Test.YtlpmndlefbghoaaCaseZ
import Derived.WalkKit
import Derived.ProofKit
import Derived.OpenShut
import Derived.ChangeOld
import Derived.Below
import Derived.WalkLawsBesides
import Derived.ChangeMaps5
import Derived.JoinedCond
namespace Go.Proofs.Ytlpmndlefbghoaa.expertMixes
open Go.ChangeShapes Go.WideShapes Go.ChangeAt Go.RowKit
set_option linter.unusedVariables false
set_option linter.unusedSimpArgs false

theorem own : ownKnob Try.prog.godebug = none := by kernel_rfl
theorem laidOut : laidOutB Try.prog = true := by kernel_rfl


set_option maxHeartbeats 8000000 in
set_option maxRecDepth 100000 in
theorem walk (C0 : CaseV) (w : World) (w0 : CaseAt w C0) :
    Calls Try.prog 3 #[C0.v] w fun e w' => e = .returned (.bool true) ∧ Below w.heap.size w w' := by
  obtain ⟨ra, rn, rc, rz, ua, un, uc, UA, UC, U, da, dn, dc, DA, DC, D, h, k, xa, xn, xc, xz⟩ := C0
  obtain ⟨r, re, rl, rb, u, ub, d, db, wh, wk, x, xe, xl, xb⟩ := w0
  dsimp only at r re rl rb u ub d db wh wk x xe xl xb
  show Calls Try.prog 3 #[.agg #[.slice ra rn rc, .slice ua un uc, .slice da dn dc, .int .i64 h, .int .i64 k, .slice xa xn xc]] w _
  have kg := fun W => great_call ra rn rc ua un uc da dn dc h k xa xn xc W rb ub db
  by_cases hg : greatB un dn rn = true
  · rw [hg] at kg
    go_enter Try.func3, Try.ntmps3
    go_wp2_with (go_at_call 8; refine (kg _).mono ?_; rintro e W1 ⟨rfl, d1⟩; obtain ⟨-, -, -, -, -, -, hB⟩ := case_cells d1)
    go_ret
    exact ⟨rfl, hB⟩
  rw [Bool.not_eq_true] at hg
  rw [hg] at kg
  clear hg
  have ko1 := fun (W : World) (hN : Nets W ua un UA UC U) => own_call ua un uc UA UC U W hN (by omega)
  have ko2 := fun (W : World) (hN : Nets W da dn DA DC D) => own_call da dn dc DA DC D W hN (by omega)
  have k9 := fun (W : World) p q b b1 A C d d1 A' C' y z (h0 : Reads .i8 W p rn rz) (l0 : rn ≤ q) (g1 : Nets W b un A C U) (g2 : Nets W d dn A' C' D) (h5 : Reads .i64 W y xn xz) => Mix_call p rn q rz b un b1 A C U d dn d1 A' C' D h k y xn z xz W h0 l0 g1 g2 h5 wh wk (by omega) (by omega) (by omega)
  have k11 := fun (W : World) (h0 : Reads .i8 W ra rn rz) (g1 : Nets W ua un UA UC U) (g2 : Nets W da dn DA DC D) (h5 : Reads .i64 W xa xn xz) => refMix_call ra rn rc rz ua un uc UA UC U da dn dc DA DC D h k xa xn xc xz W h0 rl g1 g2 h5 wh wk (by omega) (by omega) (by omega)
  have k12 := fun (W : World) p q y z (h0 : Reads .i8 W p rn rz) (l0 : rn ≤ q) (h5 : Reads .i64 W y xn xz) => Route_call p rn q rz un k y xn z xz W h0 l0 h5 (WalkArith.wf_i64 ⟨by omega, by omega⟩) wk (by omega)
  have k13 := fun (W : World) (h0 : Reads .i8 W ra rn rz) (h5 : Reads .i64 W xa xn xz) => refRoute_call ra rn rc rz un k xa xn xc xz W h0 rl h5 (WalkArith.wf_i64 ⟨by omega, by omega⟩) wk (by omega)
  obtain ⟨EE, eE⟩ : ∃ EE, mixE rz un dn U D h k xz = EE := ⟨_, rfl⟩
  obtain ⟨LL, eL⟩ : ∃ LL, mixR rz un dn U D h k xz = LL := ⟨_, rfl⟩
  obtain ⟨ER, eER⟩ : ∃ ER, routeE rz (un : Int) k xz = ER := ⟨_, rfl⟩
  obtain ⟨LP, eLP⟩ : ∃ LP, rtP rz (un : Int) k xz = LP := ⟨_, rfl⟩
  obtain ⟨LS, eLS⟩ : ∃ LS, rtS rz (un : Int) k xz = LS := ⟨_, rfl⟩
  rw [eE, eL] at k9 k11
  rw [eER, eLP, eLS] at k12 k13
  clear eE eL eER eLP eLS
  go_enter Try.func3, Try.ntmps3
  go_wp2_with (go_at_call 8; refine (kg _).mono ?_; rintro e W1 ⟨rfl, d1⟩)
  have cc := fun (W : World) (hb : Below W1.heap.size W1 W) => case_cells (below_then d1 hb)
  refine em_region w.heap.size rn rc un uc dn dc xn xc ra ua da xa U D h k EE rz xz LL (fun W => Below W1.heap.size W1 W) (fun _ _ h1 h2 => below_then h1 h2) (by kernel_rfl) rfl ⟨_, rfl, rfl, rfl, rfl, by kernel_rfl⟩ ⟨_, rfl, rfl, rfl, rfl, by kernel_rfl⟩ ⟨_, rfl, rfl, rfl, rfl, by kernel_rfl⟩ ⟨_, rfl, rfl, rfl, rfl, by kernel_rfl⟩ ⟨_, rfl, rfl, rfl, rfl, by kernel_rfl⟩ ⟨_, rfl, rfl, rfl, rfl, by kernel_rfl⟩ ⟨_, rfl, rfl, rfl, rfl, by kernel_rfl⟩ ⟨_, rfl, rfl, rfl, rfl, by kernel_rfl⟩ ⟨_, rfl, rfl, rfl, rfl, by kernel_rfl⟩ ⟨_, rfl, rfl, rfl, rfl, by kernel_rfl⟩ ⟨_, rfl, rfl, rfl, rfl, by kernel_rfl⟩ ⟨_, rfl, rfl, rfl, rfl, by kernel_rfl⟩ ⟨_, rfl, rfl, rfl, rfl, by kernel_rfl⟩ ⟨_, rfl, rfl, rfl, rfl, by kernel_rfl⟩ ⟨_, rfl, rfl, rfl, rfl, by kernel_rfl⟩ ⟨_, rfl, rfl, rfl, rfl, by kernel_rfl⟩ ⟨_, rfl, rfl, rfl, rfl, by kernel_rfl⟩ ⟨_, rfl, rfl, rfl, rfl, by kernel_rfl⟩ ⟨_, rfl, rfl, rfl, rfl, by kernel_rfl⟩ ⟨_, rfl, rfl, rfl, rfl, by kernel_rfl⟩ ⟨_, rfl, rfl, rfl, rfl, by kernel_rfl⟩ ⟨_, rfl, rfl, rfl, rfl, by kernel_rfl⟩ ⟨_, rfl, rfl, rfl, rfl, by kernel_rfl⟩ ⟨_, rfl, rfl, rfl, rfl, by kernel_rfl⟩ (Below.refl _ _).drew (run_field26_0 _) (fun W hb => run_load22 (cc W hb).1) (run_field26_1 _) (fun W hb => run_load23 (cc W hb).2.1) (fun W hb => (ko1 W (u.below (cc W hb).2.2.2.2.2.2)).mono fun e w' ⟨⟨z, c, A, C, q1, q2, _, _⟩, q5⟩ => ⟨z, c, A, C, q1, q2, q5, below_then hb q5⟩) (run_field26_2 _) (fun W hb => run_load23 (cc W hb).2.2.1) (fun W hb => (ko2 W (d.below (cc W hb).2.2.2.2.2.2)).mono fun e w' ⟨⟨z, c, A, C, q1, q2, _, _⟩, q5⟩ => ⟨z, c, A, C, q1, q2, q5, below_then hb q5⟩) (run_field26_3 _) (fun W hb => run_load3 (cc W hb).2.2.2.1) (run_field26_4 _) (fun W hb => run_load3 (cc W hb).2.2.2.2.1) (run_field26_5 _) (fun W hb => run_load24 (cc W hb).2.2.2.2.2.1) (fun W hb p q b b1 A C d d1 A' C' y z h0 l0 g1 g2 h5 => (k9 W p q b b1 A C d d1 A' C' y z h0 l0 g1 g2 h5).mono fun e w' ⟨⟨b, bn, bc, q1, q2⟩, q5⟩ => ⟨b, bn, bc, q1, q2, q5, below_then hb q5⟩) (fun W hb => r.below (cc W hb).2.2.2.2.2.2) (by omega) (fun o h => by obtain rfl := Option.some.inj h; rfl) (fun W hb => x.below (cc W hb).2.2.2.2.2.2) (by omega) (fun o h => by obtain rfl := Option.some.inj h; rfl) rfl (Nat.le_of_ble_eq_true rfl) ?_
  intro a Wa hs hd hkp hSa hval
  have e4 : a.tmps.getD 4 undef = .int .i64 EE := hval 23 4 (by decide) rfl
  obtain ⟨p3, m3, s3, e3, f3⟩ := hval 22 3 (by decide) rfl
  have ep := frame_puts [16, 17, 18, 19, 20, 21, 22, 23, 24, 25, 26, 27, 28, 29, 30, 31, 32, 33, 34, 15, 35, 36, 3, 4] hs hd (fun s h => hkp s (fun i hi e => h (by
    rcases (show i = 0 ∨ i = 1 ∨ i = 2 ∨ i = 3 ∨ i = 4 ∨ i = 5 ∨ i = 6 ∨ i = 7 ∨ i = 8 ∨ i = 9 ∨ i = 10 ∨ i = 11 ∨ i = 12 ∨ i = 13 ∨ i = 14 ∨ i = 15 ∨ i = 16 ∨ i = 17 ∨ i = 18 ∨ i = 19 ∨ i = 20 ∨ i = 21 ∨ i = 22 ∨ i = 23 by omega) with rfl | rfl | rfl | rfl | rfl | rfl | rfl | rfl | rfl | rfl | rfl | rfl | rfl | rfl | rfl | rfl | rfl | rfl | rfl | rfl | rfl | rfl | rfl | rfl <;> (simp only [emD, Option.some.injEq] at e; subst e; simp))))
  simp only [List.foldl] at ep
  rw [e4] at ep
  rw [e3] at ep
  have Ha := hidden_ hSa
  clear hs hd hkp hval hSa e4 e3
  generalize a.tmps.getD 16 undef = g16 at ep
  generalize a.tmps.getD 17 undef = g17 at ep
  generalize a.tmps.getD 18 undef = g18 at ep
  generalize a.tmps.getD 19 undef = g19 at ep
  generalize a.tmps.getD 20 undef = g20 at ep
  generalize a.tmps.getD 21 undef = g21 at ep
  generalize a.tmps.getD 22 undef = g22 at ep
  generalize a.tmps.getD 23 undef = g23 at ep
  generalize a.tmps.getD 24 undef = g24 at ep
  generalize a.tmps.getD 25 undef = g25 at ep
  generalize a.tmps.getD 26 undef = g26 at ep
  generalize a.tmps.getD 27 undef = g27 at ep
  generalize a.tmps.getD 28 undef = g28 at ep
  generalize a.tmps.getD 29 undef = g29 at ep
  generalize a.tmps.getD 30 undef = g30 at ep
  generalize a.tmps.getD 31 undef = g31 at ep
  generalize a.tmps.getD 32 undef = g32 at ep
  generalize a.tmps.getD 33 undef = g33 at ep
  generalize a.tmps.getD 34 undef = g34 at ep
  generalize a.tmps.getD 15 undef = g15 at ep
  generalize a.tmps.getD 35 undef = g35 at ep
  generalize a.tmps.getD 36 undef = g36 at ep
  simp only [Act.put, List.setIfInBounds_toArray, List.set_cons_succ, List.set_cons_zero] at ep
  subst ep
  have da1 : Below (w.alloc (.cells #[.slice ra rn rc, .slice ua un uc, .slice da dn dc, .int .i64 h, .int .i64 k, .slice xa xn xc] 26)).heap.size (w.alloc (.cells #[.slice ra rn rc, .slice ua un uc, .slice da dn dc, .int .i64 h, .int .i64 k, .slice xa xn xc] 26)) Wa := below_then d1 Ha.out
  obtain ⟨q0, q1, q2, q3, q4, q5, hBa⟩ := case_cells da1
  clear cc ko1 ko2 k9 kg Ha d1
  go_wp2_with (go_at_call 11; refine (k11 Wa (r.below hBa) (u.below hBa) (d.below hBa) (x.below hBa)).mono ?_; rintro e W2 ⟨⟨p5, m5, s5, rfl, f5⟩, d2⟩; replace f3 := f3.below d2; clear q0 q1 q2 q3 q4 q5 hBa k11)
  have cc := fun (W : World) (hb : Below W2.heap.size W2 W) => case_cells (below_then (below_then da1 d2) hb)
  refine er_region w.heap.size rn rc un uc xn xc ra ua xa k ER rz xz LP LS (fun W => Below W2.heap.size W2 W) (fun _ _ h1 h2 => below_then h1 h2) (by kernel_rfl) rfl ⟨_, rfl, rfl, rfl, rfl, by kernel_rfl⟩ ⟨_, rfl, rfl, rfl, rfl, by kernel_rfl⟩ ⟨_, rfl, rfl, rfl, rfl, by kernel_rfl⟩ ⟨_, rfl, rfl, rfl, rfl, by kernel_rfl⟩ ⟨_, rfl, rfl, rfl, rfl, by kernel_rfl⟩ ⟨_, rfl, rfl, rfl, rfl, by kernel_rfl⟩ ⟨_, rfl, rfl, rfl, rfl, by kernel_rfl⟩ ⟨_, rfl, rfl, rfl, rfl, by kernel_rfl⟩ ⟨_, rfl, rfl, rfl, rfl, by kernel_rfl⟩ ⟨_, rfl, rfl, rfl, rfl, by kernel_rfl⟩ ⟨_, rfl, rfl, rfl, rfl, by kernel_rfl⟩ ⟨_, rfl, rfl, rfl, rfl, by kernel_rfl⟩ ⟨_, rfl, rfl, rfl, rfl, by kernel_rfl⟩ ⟨_, rfl, rfl, rfl, rfl, by kernel_rfl⟩ ⟨_, rfl, rfl, rfl, rfl, by kernel_rfl⟩ ⟨_, rfl, rfl, rfl, rfl, by kernel_rfl⟩ ⟨_, rfl, rfl, rfl, rfl, by kernel_rfl⟩ ⟨_, rfl, rfl, rfl, rfl, by kernel_rfl⟩ ⟨_, rfl, rfl, rfl, rfl, by kernel_rfl⟩ ⟨_, rfl, rfl, rfl, rfl, by kernel_rfl⟩ ⟨_, rfl, rfl, rfl, rfl, by kernel_rfl⟩ (Below.refl _ _).drew (run_field26_0 _) (fun W hb => run_load22 (cc W hb).1) (run_field26_1 _) (fun W hb => run_load23 (cc W hb).2.1) (run_field26_4 _) (fun W hb => run_load3 (cc W hb).2.2.2.2.1) (run_field26_5 _) (fun W hb => run_load24 (cc W hb).2.2.2.2.2.1) (fun W hb p q y z h0 l0 h5 => (k12 W p q y z h0 l0 h5).mono fun e w' ⟨⟨p, pn, pc, b, bn, bc, q1, q2, q3⟩, q5⟩ => ⟨p, pn, pc, b, bn, bc, q1, q2, q3, q5, below_then hb q5⟩) (fun W hb => r.below (cc W hb).2.2.2.2.2.2) (by omega) (fun o h => by obtain rfl := Option.some.inj h; rfl) (fun W hb => x.below (cc W hb).2.2.2.2.2.2) (by omega) (fun o h => by obtain rfl := Option.some.inj h; rfl) rfl (Nat.le_of_ble_eq_true rfl) ?_
  intro a Wb hs hd hkp hSb hval
  have e9 : a.tmps.getD 9 undef = .int .i64 ER := hval 20 9 (by decide) rfl
  obtain ⟨p7, m7, s7, e7, f7⟩ := hval 18 7 (by decide) rfl
  obtain ⟨p8, m8, s8, e8, f8⟩ := hval 19 8 (by decide) rfl
  have ep := frame_puts [54, 55, 56, 57, 58, 59, 60, 61, 62, 63, 64, 65, 66, 67, 53, 68, 69, 70, 7, 8, 9] hs hd (fun s h => hkp s (fun i hi e => h (by
    rcases (show i = 0 ∨ i = 1 ∨ i = 2 ∨ i = 3 ∨ i = 4 ∨ i = 5 ∨ i = 6 ∨ i = 7 ∨ i = 8 ∨ i = 9 ∨ i = 10 ∨ i = 11 ∨ i = 12 ∨ i = 13 ∨ i = 14 ∨ i = 15 ∨ i = 16 ∨ i = 17 ∨ i = 18 ∨ i = 19 ∨ i = 20 by omega) with rfl | rfl | rfl | rfl | rfl | rfl | rfl | rfl | rfl | rfl | rfl | rfl | rfl | rfl | rfl | rfl | rfl | rfl | rfl | rfl | rfl <;> (simp only [erD, Option.some.injEq] at e; subst e; simp))))
  simp only [List.foldl] at ep
  rw [e9] at ep
  rw [e7] at ep
  rw [e8] at ep
  have Hb := hidden_ hSb
  clear hs hd hkp hval hSb e9 e7 e8
  generalize a.tmps.getD 54 undef = g54 at ep
  generalize a.tmps.getD 55 undef = g55 at ep
  generalize a.tmps.getD 56 undef = g56 at ep
  generalize a.tmps.getD 57 undef = g57 at ep
  generalize a.tmps.getD 58 undef = g58 at ep
  generalize a.tmps.getD 59 undef = g59 at ep
  generalize a.tmps.getD 60 undef = g60 at ep
  generalize a.tmps.getD 61 undef = g61 at ep
  generalize a.tmps.getD 62 undef = g62 at ep
  generalize a.tmps.getD 63 undef = g63 at ep
  generalize a.tmps.getD 64 undef = g64 at ep
  generalize a.tmps.getD 65 undef = g65 at ep
  generalize a.tmps.getD 66 undef = g66 at ep
  generalize a.tmps.getD 67 undef = g67 at ep
  generalize a.tmps.getD 53 undef = g53 at ep
  generalize a.tmps.getD 68 undef = g68 at ep
  generalize a.tmps.getD 69 undef = g69 at ep
  generalize a.tmps.getD 70 undef = g70 at ep
  simp only [Act.put, List.setIfInBounds_toArray, List.set_cons_succ, List.set_cons_zero] at ep
  subst ep
  have db1 : Below (w.alloc (.cells #[.slice ra rn rc, .slice ua un uc, .slice da dn dc, .int .i64 h, .int .i64 k, .slice xa xn xc] 26)).heap.size (w.alloc (.cells #[.slice ra rn rc, .slice ua un uc, .slice da dn dc, .int .i64 h, .int .i64 k, .slice xa xn xc] 26)) Wb := below_then (below_then da1 d2) Hb.out
  replace f3 := f3.below Hb.out
  replace f5 := f5.below Hb.out
  obtain ⟨q0, q1, q2, q3, q4, q5, hBb⟩ := case_cells db1
  clear cc k12 Hb d2 da1 db1
  go_wp2_with (first
    | (go_at_call 13; refine (k13 Wb (r.below hBb) (x.below hBb)).mono ?_; rintro e W3 ⟨⟨p10, m10, s10, p11, m11, s11, rfl, f10, f11⟩, d3⟩; replace f3 := f3.below d3; replace f5 := f5.below d3; replace f7 := f7.below d3; replace f8 := f8.below d3; have hB3 := below_then hBb d3; clear q0 q1 q2 q3 q4 q5 hBb k13 d3)
    | (go_at_call_of 14 (Value.slice p3 m3 s3); refine (same_call _ _ _ LL _ _ _ _ f3 f5).mono ?_; rintro e W4 ⟨rfl, hq⟩; have d4 := below_drew (Below.refl W3.heap.size W3) hq; replace f7 := f7.below d4; replace f8 := f8.below d4; replace f10 := f10.below d4; replace f11 := f11.below d4; have hB4 := below_then hB3 d4; clear d4 hq f3 f5 hB3)
    | (go_at_call 15; refine (same_ints _ _ _ LP _ _ _ _ f7 f10).mono ?_; rintro e W5 ⟨rfl, hq⟩; have d5 := below_drew (Below.refl W4.heap.size W4) hq; replace f8 := f8.below d5; replace f11 := f11.below d5; have hB5 := below_then hB4 d5; clear d5 hq f7 f10 hB4)
    | (go_at_call_of 14 (Value.slice p8 m8 s8); refine (same_call _ _ _ LS _ _ _ _ f8 f11).mono ?_; rintro e W6 ⟨rfl, hq⟩; have hB6 := below_drew hB5 hq; clear hq f8 f11 hB5))
  go_ret
  exact ⟨by simp, hB6⟩

theorem contract (H : Type) (enc : TypeId × Value → H) (W : World) (base : Nat) (args : Array Value) (ds gs : List (DataW H)) (before : List MemPlace)
    (hval0 : ∀ (j : Nat) t v, Try.f3.params[j]? = some t → args[j]? = some v → Value.okWide Try.prog W .any base t v)
    (hW : DataW.Whole enc Try.prog Try.f3.params.toList Rows.expertMixesSpec.vars false W args.toList ds gs before)
    (hk : Rows.uptoSmall H (ds ++ gs) = true) :
    Calls Try.prog 3 args W fun e W' => ∃ v, e = .returned v ∧ Rows.expertMixesSpec.post enc Try.prog Try.f3 false true false false W args v W' := by
  have hval : ∀ (j : Nat) t v, Try.f3.params[j]? = some t → args[j]? = some v → Value.okWide Try.prog W .any base t v := hval0
  have hW' := hW
  obtain ⟨p, q, hA0, hV, rfl, hfz, hnd⟩ := hW
  have hA : DataW.TrodAll enc Try.prog W 0 (fun _ => true) true Try.f3.params.toList args.toList ds p := hA0
  rw [Try.params3] at hA hval
  obtain ⟨v0, vs0, d0, ds0, p0, q0, hargs, rfl, rfl, h0, r0⟩ := trodAll_cons hA
  obtain ⟨rfl, rfl, rfl⟩ := trodAll_nil r0
  obtain rfl : args = #[v0] := by cases args; simp_all
  obtain ⟨rfl, rfl⟩ := trodVars_none hV
  have k0 := h0
  have lt0 : ∀ x ∈ p0, x.block < W.heap.size := by obtain ⟨m, hm⟩ := k0; exact DataW.trod_lt m _ _ _ hm
  have bk0 : Rows.uptoBulk d0 ≤ 1048576 := Nat.le_trans (bulk_member _ 0 d0 rfl) (of_decide_eq_true hk)
  obtain ⟨C0, rfl, w0⟩ := open_case (hval 0 26 v0 rfl rfl) h0 bk0
  clear hA0 hval0
  refine (walk C0 W w0).mono fun e W' ⟨he, bel⟩ => ?_
  subst he
  exact ⟨_, rfl, _, _, _, [], _, [], hW', trodAll_mk1 (shut_bool Try.underlying4 _), (trodAll_cons_mk (Below.trod laidOut (by kernel_rfl) (of_decide_eq_true (by kernel_rfl)) k0 bel lt0) trodAll_mk0), rfl, bel.frame _, fun h => by cases h⟩

set_option maxRecDepth 100000 in
theorem lifted (os : Os) (started : os.Started) (H : Type) (enc : TypeId × Value → H) (F : Stop.Interp) :
    ReturnsInHanded {} Try.checked os 3 .any ((Rows.OpenSpec.upto Rows.expertMixesSpec).pre6 enc Try.prog Try.f3 Rows.expertMixesUptoRow.domain false) (((Rows.OpenSpec.upto Rows.expertMixesSpec).at F).post enc Try.prog Try.f3 false true false false) := by
  refine returnsInHanded_of_cond (C := Try.checked) (s := Rows.OpenSpec.upto Rows.expertMixesSpec) (k := Rows.uptoSmall) rfl own started (by kernel_rfl) Try.func3
    (OpenSpec.witness (enc := enc) (C := Try.checked) (s := Rows.OpenSpec.upto Rows.expertMixesSpec) (k := Rows.uptoSmall) rfl false ⟨#[], #[.agg #[.slice none 0 0, .slice none 0 0, .slice none 0 0, .int .i64 0, .int .i64 0, .slice none 0 0]], []⟩ 8 (by kernel_rfl) (by kernel_rfl) (by kernel_rfl)
      (x := ([.agg [.nil, .nil, .nil, .lit (.int .i64 0), .lit (.int .i64 0), .nil]], [], [])) (by kernel_rfl) rfl (by kernel_rfl)) ?_
  intro W base args ds gs before hval hW _ hk _
  exact contract H enc W base args ds gs before hval hW hk

theorem over : Rows.expertMixesUptoRow.holds Try.pinned (Rows.OpenSpec.upto Rows.expertMixesSpec) :=
  OpenClaim.holds_of_cond 3 Try.f3 rfl rfl rfl rfl rfl rfl rfl ⟨rfl, rfl, rfl, rfl, rfl⟩ rfl rfl rfl rfl rfl (by kernel_rfl) Try.func3 (by kernel_rfl)
    (of_decide_eq_true (by kernel_rfl)) (by unfold Func.isWrapper; first | (rw [if_pos (by decide +kernel)]; kernel_rfl) | (rw [if_neg (by decide +kernel)]; exact ⟨rfl, rfl⟩))
    (fun os started H enc _ F => lifted os started H enc F)

theorem proved : Rows.ExpertMixesUptoSaid :=
  over
#print axioms proved
end Go.Proofs.Ytlpmndlefbghoaa.expertMixes
