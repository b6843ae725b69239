/- For every case of networks, a router and a row, of together at most 1048576 values, with one network chosen what the program's Mix makes of the row, and its error, are what its One makes of it by the network with the greatest score, the first of these. -/
import Derived.Test.YtlpmndlefbghoaaRows
import Derived.Test.YtlpmndlefbghoaaView
import Derived.Test.YtlpmndlefbghoaaOwn
import Derived.Test.YtlpmndlefbghoaaSteps
import Derived.Test.YtlpmndlefbghoaaSame
import Derived.Test.YtlpmndlefbghoaaSameI
import Derived.Test.YtlpmndlefbghoaaInvIn
import Derived.Test.YtlpmndlefbghoaaHeld
import Derived.Test.YtlpmndlefbghoaaXpNeed
import Derived.Test.YtlpmndlefbghoaaAskZ
import Derived.Test.YtlpmndlefbghoaaOneZ
import Derived.Test.YtlpmndlefbghoaaXpRouteZ
import Derived.Test.YtlpmndlefbghoaaXpRouteF
import Derived.Test.YtlpmndlefbghoaaXpMixZ
import Derived.Test.YtlpmndlefbghoaaMixZ
import Derived.Test.YtlpmndlefbghoaaXpGridB
import Derived.Test.YtlpmndlefbghoaaRegZ
import Derived.Test.YtlpmndlefbghoaaXpRegE
import Derived.Test.YtlpmndlefbghoaaCaseZ
import Derived.Test.YtlpmndlefbghoaaXpWorks
import Derived.Test.YtlpmndlefbghoaaRefTop
import Derived.Test.YtlpmndlefbghoaaRank
import Derived.Test.YtlpmndlefbghoaaXpFirstZ
import Derived.WalkKit
import Derived.ProofKit
import Derived.OpenShut
import Derived.ChangeOld
import Derived.Below
import Derived.WalkLawsBesides
import Derived.ChangeMaps5
import Derived.JoinedCond
namespace Go.Proofs.Ytlpmndlefbghoaa.expertFirst
open Go.ChangeShapes Go.WideShapes Go.ChangeAt Go.RowKit
set_option linter.unusedVariables false
set_option linter.unusedSimpArgs false

theorem own : ownKnob Try.prog.godebug = none := by kernel_rfl
theorem laidOut : laidOutB Try.prog = true := by kernel_rfl


set_option maxHeartbeats 8000000 in
set_option maxRecDepth 100000 in
theorem walk (C0 : CaseV) (w : World) (w0 : CaseAt w C0) :
    Calls Try.prog 5 #[C0.v] w fun e w' => e = .returned (.bool true) ∧ Below w.heap.size w w' := by
  obtain ⟨ra, rn, rc, rz, ua, un, uc, UA, UC, U, da, dn, dc, DA, DC, D, h, k, xa, xn, xc, xz⟩ := C0
  obtain ⟨r, re, rl, rb, u, ub, d, db, wh, wk, x, xe, xl, xb⟩ := w0
  dsimp only at r re rl rb u ub d db wh wk x xe xl xb
  show Calls Try.prog 5 #[.agg #[.slice ra rn rc, .slice ua un uc, .slice da dn dc, .int .i64 h, .int .i64 k, .slice xa xn xc]] w _
  have kg := fun W => great_call ra rn rc ua un uc da dn dc h k xa xn xc W rb ub db
  have hnot : ∀ (x : Bool) (w : World), (Op.unary .not (.bool x)).run Try.prog w = .ok (.bool (!x)) w := fun _ _ => rfl
  by_cases hg : greatB un dn rn = true
  · rw [hg] at kg
    go_enter Try.func5, Try.ntmps5
    go_wp2_with (first
    | (go_at_call 18; refine (works_call _).mono ?_; rintro e W0 ⟨rfl, d0⟩; obtain ⟨q0, q1, q2, q3, q4, q5, -⟩ := case_cells d0)
    | (go_at_call 8; refine (kg _).mono ?_; rintro e W1 ⟨rfl, d1'⟩; have d1 := below_then d0 d1'; clear d1' q0 q1 q2 q3 q4 q5; obtain ⟨q0, q1, q2, q3, q4, q5, hB1⟩ := case_cells d1))
    go_ret
    exact ⟨rfl, hB1⟩
  rw [Bool.not_eq_true] at hg
  rw [hg] at kg
  clear hg
  by_cases hn2 : un < 2
  · have p1 : (un : Int) < 2 := by omega
    go_enter Try.func5, Try.ntmps5
    go_wp2_with (first
    | (go_at_call 18; refine (works_call _).mono ?_; rintro e W0 ⟨rfl, d0⟩; obtain ⟨q0, q1, q2, q3, q4, q5, -⟩ := case_cells d0)
    | (go_at_call 8; refine (kg _).mono ?_; rintro e W1 ⟨rfl, d1'⟩; have d1 := below_then d0 d1'; clear d1' q0 q1 q2 q3 q4 q5; obtain ⟨q0, q1, q2, q3, q4, q5, hB1⟩ := case_cells d1))
    go_ret
    exact ⟨rfl, hB1⟩
  have p1 : ¬ (un : Int) < 2 := by omega
  by_cases hnd : un = dn
  case neg =>
    have p2 : ((un : Int) != (dn : Int)) = true := by simp; omega
    clear hnd
    go_enter Try.func5, Try.ntmps5
    go_wp2_with (first
    | (go_at_call 18; refine (works_call _).mono ?_; rintro e W0 ⟨rfl, d0⟩; obtain ⟨q0, q1, q2, q3, q4, q5, -⟩ := case_cells d0)
    | (go_at_call 8; refine (kg _).mono ?_; rintro e W1 ⟨rfl, d1'⟩; have d1 := below_then d0 d1'; clear d1' q0 q1 q2 q3 q4 q5; obtain ⟨q0, q1, q2, q3, q4, q5, hB1⟩ := case_cells d1))
    go_ret
    exact ⟨rfl, hB1⟩
  subst hnd
  have wU : (Lit.int .i64 (un : Int)).wf = true := WalkArith.wf_i64 ⟨by omega, by omega⟩
  cases hf : fitB rn (un : Int) xn with
  | false =>
    have k19 := fun (W : World) => refMat_no ra rn rc (un : Int) xa xn xc W r.max x.max wU hf
    go_enter Try.func5, Try.ntmps5
    go_wp2_with (first
    | (go_at_call 18; refine (works_call _).mono ?_; rintro e W0 ⟨rfl, d0⟩; obtain ⟨q0, q1, q2, q3, q4, q5, -⟩ := case_cells d0)
    | (go_at_call 8; refine (kg _).mono ?_; rintro e W1 ⟨rfl, d1'⟩; have d1 := below_then d0 d1'; clear d1' q0 q1 q2 q3 q4 q5; obtain ⟨q0, q1, q2, q3, q4, q5, hB1⟩ := case_cells d1)
      | (go_at_call 19; refine (k19 _).mono ?_; rintro e W2 ⟨rfl, hq⟩; obtain rfl := hq.symm))
    go_ret
    exact ⟨rfl, hB1⟩
  | true =>
  have hf' : fitB rz.length (un : Int) xz.length = true := by rw [r.len, x.len]; exact hf
  have hn1 : 1 < un := by omega
  obtain ⟨pl, em⟩ := first_lt hn1 hf'
  obtain ⟨eE, eR⟩ := mix_first U D h hn1 hf'
  have k19 := fun (W : World) (h0 : Reads .i8 W ra rn rz) (h5 : Reads .i64 W xa xn xz) => refMat_yes ra rn rc rz (un : Int) xa xn xc xz W h0 rl h5 hf (by omega)
  have k20 := fun (W : World) p q (h0 : Reads .i64 W p (rn / xn) (matL rz xz)) => refMax_call p (rn / xn) q (matL rz xz) W h0 (by have := Nat.div_le_self rn xn; omega)
  rw [em] at k20
  have k9 := fun (W : World) (h0 : Reads .i8 W ra rn rz) (g1 : Nets W ua un UA UC U) (g2 : Nets W da un DA DC D) (h5 : Reads .i64 W xa xn xz) => Mix_call ra rn rc rz ua un uc UA UC U da un dc DA DC D h 1 xa xn xc xz W h0 rl g1 g2 h5 wh (by decide) (by omega) (by omega) (by omega)
  rw [eE, eR] at k9
  have k16 := fun (W : World) (g1 : Nets W ua un UA UC U) (g2 : Nets W da un DA DC D) (h5 : Reads .i64 W xa xn xz) => One_call (UA (plc rz xz 0)) (U (plc rz xz 0)).length (UC (plc rz xz 0)) (U (plc rz xz 0)) (DA (plc rz xz 0)) (D (plc rz xz 0)).length (DC (plc rz xz 0)) (D (plc rz xz 0)) h xa xn xc xz W (g1.grid.row _ pl) (g1.cap _ pl) (g2.grid.row _ pl) (g2.cap _ pl) h5 wh (g1.bnd _ pl) (g2.bnd _ pl)
  obtain ⟨EE, eEE⟩ : ∃ EE, (if oneB (U (plc rz xz 0)) (D (plc rz xz 0)) h xz then (0 : Int) else 21) = EE := ⟨_, rfl⟩
  obtain ⟨LL, eLL⟩ : ∃ LL, (if oneB (U (plc rz xz 0)) (D (plc rz xz 0)) h xz then oneL (U (plc rz xz 0)) (D (plc rz xz 0)) xz else []) = LL := ⟨_, rfl⟩
  rw [eEE, eLL] at k9 k16
  obtain ⟨p, ep⟩ : ∃ p, plc rz xz 0 = p := ⟨_, rfl⟩
  rw [ep] at k20 k16 pl
  clear eEE eLL ep eE eR em hf hf'
  obtain ⟨ax, rfl⟩ := u.grid.some_ (by omega)
  obtain ⟨ay, rfl⟩ := d.grid.some_ (by omega)
  obtain ⟨R, eR⟩ : ∃ R, rn / xn = R := ⟨_, rfl⟩
  rw [eR] at k19 k20
  clear eR
  go_enter Try.func5, Try.ntmps5
  go_wp2_with (first
    | (go_at_call 18; refine (works_call _).mono ?_; rintro e W0 ⟨rfl, d0⟩; obtain ⟨q0, q1, q2, q3, q4, q5, -⟩ := case_cells d0)
    | (go_at_call 8; refine (kg _).mono ?_; rintro e W1 ⟨rfl, d1'⟩; have d1 := below_then d0 d1'; clear d1' q0 q1 q2 q3 q4 q5; obtain ⟨q0, q1, q2, q3, q4, q5, hB1⟩ := case_cells d1)
    | (go_at_call 19; refine (k19 W1 (r.below hB1) (x.below hB1)).mono ?_; rintro e W2 ⟨⟨p3, c3, rfl, f3, -⟩, d2'⟩; have d2 := below_then d1 d2'; clear d2' q0 q1 q2 q3 q4 q5 hB1; obtain ⟨q0, q1, q2, q3, q4, q5, hB2⟩ := case_cells d2)
    | (go_at_call 20; refine (k20 W2 _ _ f3).mono ?_; rintro e W3 ⟨rfl, d3'⟩; have d3 := below_then d2 d3'; clear d3' q0 q1 q2 q3 q4 q5 hB2 f3; obtain ⟨q0, q1, q2, q3, q4, q5, hB3⟩ := case_cells d3)
    | (go_at_call 9; refine (k9 W3 (r.below hB3) (u.below hB3) (d.below hB3) (x.below hB3)).mono ?_; rintro e W4 ⟨⟨p6, m6, s6, rfl, f6⟩, d4'⟩; have d4 := below_then d3 d4'; clear d4' q0 q1 q2 q3 q4 q5 hB3))
  have cc := fun (W : World) (hb : Below W4.heap.size W4 W) => case_cells (below_then d4 hb)
  clear k9 k19 k20 kg
  refine ef_region w.heap.size un uc dc p (U p).length (UC p) (D p).length (DC p) xn xc ax ay (UA p) (DA p) xa h EE LL (fun W => Below W4.heap.size W4 W) (fun _ _ h1 h2 => below_then h1 h2) (by kernel_rfl) rfl ⟨_, rfl, rfl, rfl, rfl, by kernel_rfl⟩ ⟨_, rfl, rfl, rfl, rfl, by kernel_rfl⟩ ⟨_, rfl, rfl, rfl, rfl, by kernel_rfl⟩ ⟨_, rfl, rfl, rfl, rfl, by kernel_rfl⟩ ⟨_, rfl, rfl, rfl, rfl, by kernel_rfl⟩ ⟨_, rfl, rfl, rfl, rfl, by kernel_rfl⟩ ⟨_, rfl, rfl, rfl, rfl, by kernel_rfl⟩ ⟨_, rfl, rfl, rfl, rfl, by kernel_rfl⟩ ⟨_, rfl, rfl, rfl, rfl, by kernel_rfl⟩ ⟨_, rfl, rfl, rfl, rfl, by kernel_rfl⟩ ⟨_, rfl, rfl, rfl, rfl, by kernel_rfl⟩ ⟨_, rfl, rfl, rfl, rfl, by kernel_rfl⟩ ⟨_, rfl, rfl, rfl, rfl, by kernel_rfl⟩ ⟨_, rfl, rfl, rfl, rfl, by kernel_rfl⟩ ⟨_, rfl, rfl, rfl, rfl, by kernel_rfl⟩ ⟨_, rfl, rfl, rfl, rfl, by kernel_rfl⟩ ⟨_, rfl, rfl, rfl, rfl, by kernel_rfl⟩ ⟨_, rfl, rfl, rfl, rfl, by kernel_rfl⟩ ⟨_, rfl, rfl, rfl, rfl, by kernel_rfl⟩ ⟨_, rfl, rfl, rfl, rfl, by kernel_rfl⟩ (Below.refl _ _).drew (run_field26_1 _) (fun W hb => run_load23 (cc W hb).2.1) (run_index23 _ _ _ _ pl) (fun W hb => run_load22 ((u.below (cc W hb).2.2.2.2.2.2).grid.cell ax rfl p pl)) (run_field26_2 _) (fun W hb => run_load23 (cc W hb).2.2.1) (run_index23 _ _ _ _ pl) (fun W hb => run_load22 ((d.below (cc W hb).2.2.2.2.2.2).grid.cell ay rfl p pl)) (run_field26_3 _) (fun W hb => run_load3 (cc W hb).2.2.2.1) (run_field26_5 _) (fun W hb => run_load24 (cc W hb).2.2.2.2.2.1) (fun W hb => (k16 W (u.below (cc W hb).2.2.2.2.2.2) (d.below (cc W hb).2.2.2.2.2.2) (x.below (cc W hb).2.2.2.2.2.2)).mono fun e w' ⟨⟨b, bn, bc, q1, q2⟩, q5⟩ => ⟨b, bn, bc, q1, q2, q5, below_then hb q5⟩) rfl rfl (Nat.le_of_ble_eq_true rfl) ?_
  intro a Wa hs hd hkp hSa hval
  have e9 : a.tmps.getD 9 undef = .int .i64 EE := hval 19 9 (by decide) rfl
  obtain ⟨p8, m8, s8, e8, f8⟩ := hval 18 8 (by decide) rfl
  have ep := frame_puts [59, 60, 61, 62, 63, 64, 65, 66, 67, 68, 69, 70, 71, 72, 73, 58, 74, 75, 8, 9] hs hd (fun s h => hkp s (fun i hi e => h (by
    rcases (show i = 0 ∨ i = 1 ∨ i = 2 ∨ i = 3 ∨ i = 4 ∨ i = 5 ∨ i = 6 ∨ i = 7 ∨ i = 8 ∨ i = 9 ∨ i = 10 ∨ i = 11 ∨ i = 12 ∨ i = 13 ∨ i = 14 ∨ i = 15 ∨ i = 16 ∨ i = 17 ∨ i = 18 ∨ i = 19 by omega) with rfl | rfl | rfl | rfl | rfl | rfl | rfl | rfl | rfl | rfl | rfl | rfl | rfl | rfl | rfl | rfl | rfl | rfl | rfl | rfl <;> (simp only [efD, Option.some.injEq] at e; subst e; simp))))
  simp only [List.foldl] at ep
  rw [e9] at ep
  rw [e8] at ep
  have Ha := hidden_ hSa
  clear hs hd hkp hval hSa e9 e8
  generalize a.tmps.getD 59 undef = g59 at ep
  generalize a.tmps.getD 60 undef = g60 at ep
  generalize a.tmps.getD 61 undef = g61 at ep
  generalize a.tmps.getD 62 undef = g62 at ep
  generalize a.tmps.getD 63 undef = g63 at ep
  generalize a.tmps.getD 64 undef = g64 at ep
  generalize a.tmps.getD 65 undef = g65 at ep
  generalize a.tmps.getD 66 undef = g66 at ep
  generalize a.tmps.getD 67 undef = g67 at ep
  generalize a.tmps.getD 68 undef = g68 at ep
  generalize a.tmps.getD 69 undef = g69 at ep
  generalize a.tmps.getD 70 undef = g70 at ep
  generalize a.tmps.getD 71 undef = g71 at ep
  generalize a.tmps.getD 72 undef = g72 at ep
  generalize a.tmps.getD 73 undef = g73 at ep
  generalize a.tmps.getD 58 undef = g58 at ep
  generalize a.tmps.getD 74 undef = g74 at ep
  generalize a.tmps.getD 75 undef = g75 at ep
  simp only [Act.put, List.setIfInBounds_toArray, List.set_cons_succ, List.set_cons_zero] at ep
  subst ep
  replace f6 := f6.below Ha.out
  have hBa : Below w.heap.size w Wa := (cc Wa Ha.out).2.2.2.2.2.2
  clear cc k16 Ha d0 d1 d2 d3 d4
  go_wp2_with (go_at_call 14; refine (same_call _ _ _ LL _ _ _ _ f6 f8).mono ?_; rintro e W6 ⟨rfl, hq⟩; have hB6 := below_drew hBa hq; clear hq f6 f8 hBa)
  go_ret
  exact ⟨by simp, hB6⟩

theorem contract (H : Type) (enc : TypeId × Value → H) (W : World) (base : Nat) (args : Array Value) (ds gs : List (DataW H)) (before : List MemPlace)
    (hval0 : ∀ (j : Nat) t v, Try.f5.params[j]? = some t → args[j]? = some v → Value.okWide Try.prog W .any base t v)
    (hW : DataW.Whole enc Try.prog Try.f5.params.toList Rows.expertFirstSpec.vars false W args.toList ds gs before)
    (hk : Rows.uptoSmall H (ds ++ gs) = true) :
    Calls Try.prog 5 args W fun e W' => ∃ v, e = .returned v ∧ Rows.expertFirstSpec.post enc Try.prog Try.f5 false true false false W args v W' := by
  have hval : ∀ (j : Nat) t v, Try.f5.params[j]? = some t → args[j]? = some v → Value.okWide Try.prog W .any base t v := hval0
  have hW' := hW
  obtain ⟨p, q, hA0, hV, rfl, hfz, hnd⟩ := hW
  have hA : DataW.TrodAll enc Try.prog W 0 (fun _ => true) true Try.f5.params.toList args.toList ds p := hA0
  rw [Try.params5] at hA hval
  obtain ⟨v0, vs0, d0, ds0, p0, q0, hargs, rfl, rfl, h0, r0⟩ := trodAll_cons hA
  obtain ⟨rfl, rfl, rfl⟩ := trodAll_nil r0
  obtain rfl : args = #[v0] := by cases args; simp_all
  obtain ⟨rfl, rfl⟩ := trodVars_none hV
  have k0 := h0
  have lt0 : ∀ x ∈ p0, x.block < W.heap.size := by obtain ⟨m, hm⟩ := k0; exact DataW.trod_lt m _ _ _ hm
  have bk0 : Rows.uptoBulk d0 ≤ 1048576 := Nat.le_trans (bulk_member _ 0 d0 rfl) (of_decide_eq_true hk)
  obtain ⟨C0, rfl, w0⟩ := open_case (hval 0 26 v0 rfl rfl) h0 bk0
  clear hA0 hval0
  refine (walk C0 W w0).mono fun e W' ⟨he, bel⟩ => ?_
  subst he
  exact ⟨_, rfl, _, _, _, [], _, [], hW', trodAll_mk1 (shut_bool Try.underlying4 _), (trodAll_cons_mk (Below.trod laidOut (by kernel_rfl) (of_decide_eq_true (by kernel_rfl)) k0 bel lt0) trodAll_mk0), rfl, bel.frame _, fun h => by cases h⟩

set_option maxRecDepth 100000 in
theorem lifted (os : Os) (started : os.Started) (H : Type) (enc : TypeId × Value → H) (F : Stop.Interp) :
    ReturnsInHanded {} Try.checked os 5 .any ((Rows.OpenSpec.upto Rows.expertFirstSpec).pre6 enc Try.prog Try.f5 Rows.expertFirstUptoRow.domain false) (((Rows.OpenSpec.upto Rows.expertFirstSpec).at F).post enc Try.prog Try.f5 false true false false) := by
  refine returnsInHanded_of_cond (C := Try.checked) (s := Rows.OpenSpec.upto Rows.expertFirstSpec) (k := Rows.uptoSmall) rfl own started (by kernel_rfl) Try.func5
    (OpenSpec.witness (enc := enc) (C := Try.checked) (s := Rows.OpenSpec.upto Rows.expertFirstSpec) (k := Rows.uptoSmall) rfl false ⟨#[], #[.agg #[.slice none 0 0, .slice none 0 0, .slice none 0 0, .int .i64 0, .int .i64 0, .slice none 0 0]], []⟩ 8 (by kernel_rfl) (by kernel_rfl) (by kernel_rfl)
      (x := ([.agg [.nil, .nil, .nil, .lit (.int .i64 0), .lit (.int .i64 0), .nil]], [], [])) (by kernel_rfl) rfl (by kernel_rfl)) ?_
  intro W base args ds gs before hval hW _ hk _
  exact contract H enc W base args ds gs before hval hW hk

theorem over : Rows.expertFirstUptoRow.holds Try.pinned (Rows.OpenSpec.upto Rows.expertFirstSpec) :=
  OpenClaim.holds_of_cond 5 Try.f5 rfl rfl rfl rfl rfl rfl rfl ⟨rfl, rfl, rfl, rfl, rfl⟩ rfl rfl rfl rfl rfl (by kernel_rfl) Try.func5 (by kernel_rfl)
    (of_decide_eq_true (by kernel_rfl)) (by unfold Func.isWrapper; first | (rw [if_pos (by decide +kernel)]; kernel_rfl) | (rw [if_neg (by decide +kernel)]; exact ⟨rfl, rfl⟩))
    (fun os started H enc _ F => lifted os started H enc F)

theorem proved : Rows.ExpertFirstUptoSaid :=
  over
#print axioms proved
end Go.Proofs.Ytlpmndlefbghoaa.expertFirst
