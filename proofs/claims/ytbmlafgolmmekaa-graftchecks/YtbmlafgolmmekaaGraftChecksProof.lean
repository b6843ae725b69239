/- For every adapter of at most 20 layers and every configuration, what the program's Check, Flat and Encode tell of it, and its error, are the document's, and the copy of it is the same (adapters of more layers are let pass). -/
import Derived.Test.YtbmlafgolmmekaaRows
import Derived.Test.YtbmlafgolmmekaaView
import Derived.Test.YtbmlafgolmmekaaOwn
import Derived.Test.YtbmlafgolmmekaaTexts
import Derived.Test.YtbmlafgolmmekaaSums
import Derived.Test.YtbmlafgolmmekaaSeals
import Derived.Test.YtbmlafgolmmekaaOpens
import Derived.Test.YtbmlafgolmmekaaWts
import Derived.Test.YtbmlafgolmmekaaCfg
import Derived.Test.YtbmlafgolmmekaaCfgs
import Derived.Test.YtbmlafgolmmekaaCfgRef
import Derived.Test.YtbmlafgolmmekaaHeld
import Derived.Test.YtbmlafgolmmekaaReader
import Derived.Test.YtbmlafgolmmekaaSls
import Derived.Test.YtbmlafgolmmekaaSteps
import Derived.Test.YtbmlafgolmmekaaRefWts
import Derived.Test.YtbmlafgolmmekaaInv
import Derived.Test.YtbmlafgolmmekaaTyped
import Derived.Test.YtbmlafgolmmekaaAds
import Derived.Test.YtbmlafgolmmekaaRanges
import Derived.Test.YtbmlafgolmmekaaCheck
import Derived.Test.YtbmlafgolmmekaaPlan
import Derived.Test.YtbmlafgolmmekaaFlat
import Derived.Test.YtbmlafgolmmekaaRefFlat
import Derived.Test.YtbmlafgolmmekaaRefCheck
import Derived.Test.YtbmlafgolmmekaaPush
import Derived.Test.YtbmlafgolmmekaaOwnReg
import Derived.Test.YtbmlafgolmmekaaOwns
import Derived.Test.YtbmlafgolmmekaaRegs
import Derived.Test.YtbmlafgolmmekaaRegEnc
import Derived.Test.YtbmlafgolmmekaaEnc
import Derived.Test.YtbmlafgolmmekaaPair
import Derived.Test.YtbmlafgolmmekaaSame
import Derived.Test.YtbmlafgolmmekaaRegChk
import Derived.Test.YtbmlafgolmmekaaOpenCfg
import Derived.Test.YtbmlafgolmmekaaOpenAd
import Derived.WalkKit
import Derived.ProofKit
import Derived.OpenShut
import Derived.ChangeOld
import Derived.Below
import Derived.WalkLawsBesides
import Derived.ChangeMaps5
import Derived.Lib.SmallJoins
import Derived.Orders
import Derived.SizedLaws
namespace Go.Proofs.Ytbmlafgolmmekaa.graftChecks
open Go.ChangeShapes Go.WideShapes Go.ChangeAt Go.RowKit
set_option linter.unusedVariables false
set_option linter.unusedSimpArgs false

theorem own : ownKnob Try.prog.godebug = none := by kernel_rfl
theorem laidOut : laidOutB Try.prog = true := by kernel_rfl


theorem chkD_out : ∀ i, i < 32 → ∀ s, chkD i = some s → s ∈ [4, 28, 29, 30, 31, 32, 33, 34, 35, 36, 37, 38, 39, 40, 41, 42, 43, 44, 45, 46, 47, 48, 49, 50, 51, 52, 53, 54, 55, 56, 57, 58] := by
  intro i hi s h
  have : ∀ i, i < 32 → (chkD i).all (fun d => decide (d ∈ [4, 28, 29, 30, 31, 32, 33, 34, 35, 36, 37, 38, 39, 40, 41, 42, 43, 44, 45, 46, 47, 48, 49, 50, 51, 52, 53, 54, 55, 56, 57, 58])) = true := by decide
  have := this i hi
  rw [h] at this
  simpa using this


set_option maxHeartbeats 4000000 in
set_option maxRecDepth 20000 in
theorem walk (R0 S0 : Int) (L0 : SL) (Y0 : Nat → Nat → SL) (m0 : AdV) (cd1 ch1 cl1 cv1 cu1 cx1 ct1 cn1 : Int) (w : World) (r0 : (Lit.int .i64 R0).wf = true) (s0 : (Lit.int .i64 S0).wf = true) (w0 : AdAt w L0 Y0 m0) (l0 : m0.ln ≤ 9223372036854775807)  (b0 : m0.ln ≤ 20 → FitsA m0) :
    Calls Try.prog 3 #[.agg #[.int .i64 R0, .int .i64 S0, .slice L0.a L0.n L0.c], .agg #[.int .i64 cd1, .int .i64 ch1, .int .i64 cl1, .int .i64 cv1, .int .i64 cu1, .int .i64 cx1, .int .i64 ct1, .int .i64 cn1]] w fun e w' => e = .returned (.bool true) ∧ Below w.heap.size w w' := by
  by_cases hl : m0.ln ≤ 20
  · have hF := b0 hl
    have k9 := fun W (hW : Below w.heap.size w W) => (own_call R0 S0 L0 Y0 m0 W (w0.below hW) hF)
    have k10 := fun W (L : SL) (Y : Nat → Nat → SL) (hA : AdAt W L Y m0) => encode_call R0 S0 cd1 ch1 cl1 cv1 cu1 cx1 ct1 cn1 L Y m0 W hA
    have k11 := fun W (hW : Below w.heap.size w W) => refEncode_call R0 S0 cd1 ch1 cl1 cv1 cu1 cx1 ct1 cn1 L0 Y0 m0 W (w0.below hW) l0
    have k12 := fun W (L : SL) (Y : Nat → Nat → SL) (hA : AdAt W L Y m0) => check_call R0 S0 cd1 ch1 cl1 cv1 cu1 cx1 ct1 cn1 L Y m0 W hA
    have k13 := fun W (hW : Below w.heap.size w W) => refCheck_call R0 S0 cd1 ch1 cl1 cv1 cu1 cx1 ct1 cn1 L0 Y0 m0 W (w0.below hW) l0
    have k15 := fun W (L : SL) (Y : Nat → Nat → SL) (hA : AdAt W L Y m0) => flat_call R0 S0 cd1 ch1 cl1 cv1 cu1 cx1 ct1 cn1 L Y m0 W hA
    have k16 := fun W (hW : Below w.heap.size w W) => refFlat_call R0 S0 cd1 ch1 cl1 cv1 cu1 cx1 ct1 cn1 L0 Y0 m0 W (w0.below hW) (fun W hW => refCheck_call R0 S0 cd1 ch1 cl1 cv1 cu1 cx1 ct1 cn1 L0 Y0 m0 W hW l0)
    have k17 := fun W (L : SL) (Y : Nat → Nat → SL) (hA : AdAt W L Y m0) (hW : Below w.heap.size w W) => sameA_call R0 S0 L L0 Y Y0 m0 W hA (w0.below hW) (by omega)
    obtain ⟨Z, eZ⟩ : ∃ z, checkA R0 S0 cd1 ch1 cl1 cv1 cu1 cx1 ct1 cn1 m0 = z := ⟨_, rfl⟩
    obtain ⟨SE, eSE⟩ : ∃ z, encV R0 S0 cd1 ch1 cl1 cv1 cu1 cx1 ct1 cn1 m0 = z := ⟨_, rfl⟩
    simp only [eZ, eSE] at k10 k11 k12 k13 k15 k16
    obtain ⟨zs, ezs⟩ : ∃ z, (if Z = 0 then flatA m0 else []) = z := ⟨_, rfl⟩
    simp only [ezs] at k15 k16
    clear eZ eSE ezs
    have hn : L0.n = m0.ln := w0.len
    obtain ⟨La, ml, Lc, eL⟩ : ∃ a n c, L0 = ⟨a, n, c⟩ := ⟨L0.a, L0.n, L0.c, rfl⟩
    subst eL
    have hml : ¬ (20 : Int) < (ml : Int) := by have hn' : ml = m0.ln := hn; omega
    have hmx : ml ≤ 20 := by have hn' : ml = m0.ln := hn; omega
    have hb := below_new (below_new (Below.refl w.heap.size w) (.cells #[.int .i64 R0, .int .i64 S0, .slice La ml Lc] 24)) (.cells #[.int .i64 cd1, .int .i64 ch1, .int .i64 cl1, .int .i64 cv1, .int .i64 cu1, .int .i64 cx1, .int .i64 ct1, .int .i64 cn1] 26)
    have qa : Blk 24 ((w.alloc (.cells #[.int .i64 R0, .int .i64 S0, .slice La ml Lc] 24)).alloc (.cells #[.int .i64 cd1, .int .i64 ch1, .int .i64 cl1, .int .i64 cv1, .int .i64 cu1, .int .i64 cx1, .int .i64 ct1, .int .i64 cn1] 26)) w.heap.size #[.int .i64 R0, .int .i64 S0, .slice La ml Lc] := (Blk.new 24 w _).kept (below_new (Below.refl _ _) _)
    have qc : Blk 26 ((w.alloc (.cells #[.int .i64 R0, .int .i64 S0, .slice La ml Lc] 24)).alloc (.cells #[.int .i64 cd1, .int .i64 ch1, .int .i64 cl1, .int .i64 cv1, .int .i64 cu1, .int .i64 cx1, .int .i64 ct1, .int .i64 cn1] 26)) (w.heap.size + 1) #[.int .i64 cd1, .int .i64 ch1, .int .i64 cl1, .int .i64 cv1, .int .i64 cu1, .int .i64 cx1, .int .i64 ct1, .int .i64 cn1] := Blk.new_at 26 (w.alloc _) _ _ (by simp)
    obtain ⟨a0', a1', a2'⟩ := qa.c3
    have HW := hidden_ w0
    clear hn w0 hl b0 l0
    go_enter Try.func3, Try.ntmps3
    go_wp2_with (first
      | (go_at_call 9; refine (k9 _ hb).mono ?_; rintro e W1 ⟨L1, Y1, rfl, hN1, h1⟩; have b2 := below_new (Below.refl W1.heap.size W1) (.cells #[.int .i64 R0, .int .i64 S0, .slice L1.a L1.n L1.c] 24); have q1 : Blk 24 (W1.alloc (.cells #[.int .i64 R0, .int .i64 S0, .slice L1.a L1.n L1.c] 24)) W1.heap.size #[.int .i64 R0, .int .i64 S0, .slice L1.a L1.n L1.c] := Blk.new 24 W1 _; obtain ⟨W2, eW2⟩ : ∃ W, W1.alloc (.cells #[.int .i64 R0, .int .i64 S0, .slice L1.a L1.n L1.c] 24) = W := ⟨_, rfl⟩; rw [eW2] at b2 q1; have ad1 := (hN1.below b2).at_; have b1 := below_then h1 b2; replace hb := below_then hb b1; replace qc := qc.kept b1; replace qa := qa.kept b1; clear h1 b1 b2 hN1 k9 a0' a1' a2'; obtain ⟨c0, c1, c2, c3, c4, c5, c6, c7⟩ := qc.cfg; obtain ⟨x0, x1, x2⟩ := q1.c3)
      | (go_at_call 10; refine (k10 _ L1 Y1 ad1).mono ?_; rintro e W3 ⟨rfl, h1⟩; replace hb := below_then hb h1; replace qc := qc.kept h1; replace qa := qa.kept h1; replace q1 := q1.kept h1; replace ad1 := ad1.below h1; clear h1 k10 c0 c1 c2 c3 c4 c5 c6 c7 x0 x1 x2; obtain ⟨c0, c1, c2, c3, c4, c5, c6, c7⟩ := qc.cfg; obtain ⟨a0', a1', a2'⟩ := qa.c3)
      | (go_at_call 11; refine (k11 _ hb).mono ?_; rintro e W4 ⟨rfl, h1⟩; replace hb := below_then hb h1; replace qc := qc.kept h1; replace qa := qa.kept h1; replace q1 := q1.kept h1; replace ad1 := ad1.below h1; clear h1 k11 c0 c1 c2 c3 c4 c5 c6 c7 a0' a1' a2'))
    refine chk_region Z SE (.agg #[.int .i64 R0, .int .i64 S0, .slice L1.a L1.n L1.c]) (.agg #[.int .i64 R0, .int .i64 S0, .slice La ml Lc]) (.agg #[.int .i64 cd1, .int .i64 ch1, .int .i64 cl1, .int .i64 cv1, .int .i64 cu1, .int .i64 cx1, .int .i64 ct1, .int .i64 cn1]) zs (by kernel_rfl) rfl ⟨_, rfl, rfl, rfl, rfl, by kernel_rfl⟩ ⟨_, rfl, rfl, rfl, rfl, by kernel_rfl⟩ ⟨_, rfl, rfl, rfl, rfl, by kernel_rfl⟩ ⟨_, rfl, rfl, rfl, rfl, by kernel_rfl⟩ ⟨_, rfl, rfl, rfl, rfl, by kernel_rfl⟩ ⟨_, rfl, rfl, rfl, rfl, by kernel_rfl⟩ ⟨_, rfl, rfl, rfl, rfl, by kernel_rfl⟩ ⟨_, rfl, rfl, rfl, rfl, by kernel_rfl⟩ ⟨_, rfl, rfl, rfl, rfl, by kernel_rfl⟩ ⟨_, rfl, rfl, rfl, rfl, by kernel_rfl⟩ ⟨_, rfl, rfl, rfl, rfl, by kernel_rfl⟩ ⟨_, rfl, rfl, rfl, rfl, by kernel_rfl⟩ ⟨_, rfl, rfl, rfl, rfl, by kernel_rfl⟩ ⟨_, rfl, rfl, rfl, rfl, by kernel_rfl⟩ ⟨_, rfl, rfl, rfl, rfl, by kernel_rfl⟩ ⟨_, rfl, rfl, rfl, rfl, by kernel_rfl⟩ ⟨_, rfl, rfl, rfl, rfl, by kernel_rfl⟩ ⟨_, rfl, rfl, rfl, rfl, by kernel_rfl⟩ ⟨_, rfl, rfl, rfl, rfl, by kernel_rfl⟩ ⟨_, rfl, rfl, rfl, rfl, by kernel_rfl⟩ ⟨_, rfl, rfl, rfl, rfl, by kernel_rfl⟩ ⟨_, rfl, rfl, rfl, rfl, by kernel_rfl⟩ ⟨_, rfl, rfl, rfl, rfl, by kernel_rfl⟩ ⟨_, rfl, rfl, rfl, rfl, by kernel_rfl⟩ ⟨_, rfl, rfl, rfl, rfl, by kernel_rfl⟩ ⟨_, rfl, rfl, rfl, rfl, by kernel_rfl⟩ ⟨_, rfl, rfl, rfl, rfl, by kernel_rfl⟩ ⟨_, rfl, rfl, rfl, rfl, by kernel_rfl⟩ ⟨_, rfl, rfl, rfl, rfl, by kernel_rfl⟩ ⟨_, rfl, rfl, rfl, rfl, by kernel_rfl⟩ ⟨_, rfl, rfl, rfl, rfl, by kernel_rfl⟩ ⟨_, rfl, rfl, rfl, rfl, by kernel_rfl⟩ w.heap.size W1.heap.size (w.heap.size + 1) rfl rfl rfl rfl rfl rfl rfl (fun W hW => run_load24 (L := ⟨La, ml, Lc⟩) (qa.kept hW)) (fun W hW => run_load26 (qc.kept hW)) (fun W hW => run_load24 (q1.kept hW)) (fun W hW => k12 W L1 Y1 (ad1.below hW)) (fun W hW => k13 W (below_then hb hW)) (fun W hW => k15 W L1 Y1 (ad1.below hW)) (fun W hW => k16 W (below_then hb hW)) (fun W s s' h h' => (same_call s.a s.n s.c zs s'.a s'.n s'.c W h.reads h'.reads).mono fun e W' ⟨he, hd⟩ => ⟨he, below_drew (Below.refl _ _) hd⟩) (fun W hW => k17 W L1 Y1 (ad1.below hW) (below_then hb hW)) (Nat.le_of_ble_eq_true rfl) ?_
    intro a W5 hs hd hkp hb1 hv
    have e4 : a.tmps.getD 4 undef = .bool true := hv 31 4 (by decide) rfl
    have ep := frame_puts [4, 28, 29, 30, 31, 32, 33, 34, 35, 36, 37, 38, 39, 40, 41, 42, 43, 44, 45, 46, 47, 48, 49, 50, 51, 52, 53, 54, 55, 56, 57, 58] hs hd (fun s h => hkp s (by intro i hi e; exact h (chkD_out i hi s e)))
    simp only [List.foldl] at ep
    rw [e4] at ep
    clear hs hd hkp hv e4
    generalize a.tmps.getD 28 undef = g28 at ep
    generalize a.tmps.getD 29 undef = g29 at ep
    generalize a.tmps.getD 30 undef = g30 at ep
    generalize a.tmps.getD 31 undef = g31 at ep
    generalize a.tmps.getD 32 undef = g32 at ep
    generalize a.tmps.getD 33 undef = g33 at ep
    generalize a.tmps.getD 34 undef = g34 at ep
    generalize a.tmps.getD 35 undef = g35 at ep
    generalize a.tmps.getD 36 undef = g36 at ep
    generalize a.tmps.getD 37 undef = g37 at ep
    generalize a.tmps.getD 38 undef = g38 at ep
    generalize a.tmps.getD 39 undef = g39 at ep
    generalize a.tmps.getD 40 undef = g40 at ep
    generalize a.tmps.getD 41 undef = g41 at ep
    generalize a.tmps.getD 42 undef = g42 at ep
    generalize a.tmps.getD 43 undef = g43 at ep
    generalize a.tmps.getD 44 undef = g44 at ep
    generalize a.tmps.getD 45 undef = g45 at ep
    generalize a.tmps.getD 46 undef = g46 at ep
    generalize a.tmps.getD 47 undef = g47 at ep
    generalize a.tmps.getD 48 undef = g48 at ep
    generalize a.tmps.getD 49 undef = g49 at ep
    generalize a.tmps.getD 50 undef = g50 at ep
    generalize a.tmps.getD 51 undef = g51 at ep
    generalize a.tmps.getD 52 undef = g52 at ep
    generalize a.tmps.getD 53 undef = g53 at ep
    generalize a.tmps.getD 54 undef = g54 at ep
    generalize a.tmps.getD 55 undef = g55 at ep
    generalize a.tmps.getD 56 undef = g56 at ep
    generalize a.tmps.getD 57 undef = g57 at ep
    generalize a.tmps.getD 58 undef = g58 at ep
    simp only [Act.put, List.setIfInBounds_toArray, List.set_cons_succ, List.set_cons_zero] at ep
    subst ep
    replace hb := below_then hb hb1
    go_wp2
    go_ret
    exact ⟨rfl, hb⟩
  · obtain ⟨La, ml, Lc, eL⟩ : ∃ a n c, L0 = ⟨a, n, c⟩ := ⟨L0.a, L0.n, L0.c, rfl⟩
    subst eL
    have hn : ml = m0.ln := w0.len
    have hml : (20 : Int) < (ml : Int) := by omega
    have hmx : ml ≤ 9223372036854775807 := by omega
    have hb := below_new (below_new (Below.refl w.heap.size w) (.cells #[.int .i64 R0, .int .i64 S0, .slice La ml Lc] 24)) (.cells #[.int .i64 cd1, .int .i64 ch1, .int .i64 cl1, .int .i64 cv1, .int .i64 cu1, .int .i64 cx1, .int .i64 ct1, .int .i64 cn1] 26)
    clear hn w0 b0
    go_enter Try.func3, Try.ntmps3
    go_wp2
    go_ret
    exact ⟨rfl, hb⟩

theorem contract (H : Type) (enc : TypeId × Value → H) (W : World) (base : Nat) (args : Array Value) (ds gs : List (DataW H)) (before : List MemPlace)
    (hval0 : ∀ (j : Nat) t v, Try.f3.params[j]? = some t → args[j]? = some v → Value.okWide Try.prog W .any base t v)
    (hW : DataW.Whole enc Try.prog Try.f3.params.toList Rows.graftChecksSpec.vars false W args.toList ds gs before)
    (hsz0 : (DataW.weightsEach Try.prog (Try.f3.params.toList ++ Rows.graftChecksSpec.plain.varTypes Try.prog) (ds ++ gs)).all (· ≤ reachBytes) = true) :
    Calls Try.prog 3 args W fun e W' => ∃ v, e = .returned v ∧ Rows.graftChecksSpec.post enc Try.prog Try.f3 false true false false W args v W' := by
  have hval : ∀ (j : Nat) t v, Try.f3.params[j]? = some t → args[j]? = some v → Value.okWide Try.prog W .any base t v := hval0
  have hW' := hW
  obtain ⟨p, q, hA0, hV, rfl, hfz, hnd⟩ := hW
  have hA : DataW.TrodAll enc Try.prog W 0 (fun _ => true) true Try.f3.params.toList args.toList ds p := hA0
  have hsz : (DataW.weightsEach Try.prog (Try.f3.params.toList ++ Rows.graftChecksSpec.plain.varTypes Try.prog) (ds ++ gs)).all (· ≤ reachBytes) = true := hsz0
  rw [Try.params3] at hA hval hsz
  obtain ⟨v0, vs0, d0, ds0, p0, q0, hargs, rfl, rfl, h0, r0⟩ := trodAll_cons hA
  obtain ⟨v1, vs1, d1, ds1, p1, q1, rfl, rfl, rfl, h1, r1⟩ := trodAll_cons r0
  obtain ⟨rfl, rfl, rfl⟩ := trodAll_nil r1
  obtain rfl : args = #[v0, v1] := by cases args; simp_all
  obtain ⟨rfl, rfl⟩ := trodVars_none hV
  have k0 := h0
  have lt0 : ∀ x ∈ p0, x.block < W.heap.size := by obtain ⟨m, hm⟩ := k0; exact DataW.trod_lt m _ _ _ hm
  obtain ⟨R0, S0, L0, Y0, m0, rfl, rr0, ss0, w0, l0, f0⟩ := open_adapter (hval 0 24 v0 rfl rfl) h0
  have b0 : m0.ln ≤ 20 → FitsA m0 := f0 fun q hq => of_decide_eq_true (List.all_eq_true.1 hsz q (DataW.weights_mem_each (j := 0) rfl rfl q hq))
  have k1 := h1
  have lt1 : ∀ x ∈ p1, x.block < W.heap.size := by obtain ⟨m, hm⟩ := k1; exact DataW.trod_lt m _ _ _ hm
  obtain ⟨cd1, ch1, cl1, cv1, cu1, cx1, ct1, cn1, rfl⟩ := open_cfg (hval 1 26 v1 rfl rfl) h1
  clear hA0 hval0
  refine (walk R0 S0 L0 Y0 m0 cd1 ch1 cl1 cv1 cu1 cx1 ct1 cn1 W rr0 ss0 w0 l0  b0).mono fun e W' ⟨he, bel⟩ => ?_
  subst he
  exact ⟨_, rfl, _, _, _, [], _, [], hW', trodAll_mk1 (shut_bool Try.underlying4 _), (trodAll_cons_mk (Below.trod laidOut (by kernel_rfl) (of_decide_eq_true (by kernel_rfl)) k0 bel lt0) (trodAll_cons_mk (Below.trod laidOut (by kernel_rfl) (of_decide_eq_true (by kernel_rfl)) k1 bel lt1) trodAll_mk0)), rfl, bel.frame _, fun h => by cases h⟩

set_option maxRecDepth 100000 in
theorem lifted (os : Os) (started : os.Started) (H : Type) (enc : TypeId × Value → H) :
    ReturnsInHanded {} Try.checked os 3 .any (Rows.graftChecksSpec.pre6 enc Try.prog Try.f3 Rows.graftChecksRow.domain false) (Rows.graftChecksSpec.post enc Try.prog Try.f3 false true false false) := by
  refine returnsInHanded_of_change_sized (C := Try.checked) own started (by kernel_rfl) Try.func3
    (ChangeSpec.witness6 (enc := enc) (C := Try.checked) false ⟨#[], #[.agg #[.int .i64 0, .int .i64 0, .slice none 0 0], .agg #[.int .i64 0, .int .i64 0, .int .i64 0, .int .i64 0, .int .i64 0, .int .i64 0, .int .i64 0, .int .i64 0]], []⟩ 8 (by kernel_rfl) (by kernel_rfl) (by kernel_rfl) (by kernel_rfl)) ?_
  intro W base args ds gs before hval hW _ hsz _
  exact contract H enc W base args ds gs before hval hW hsz

theorem over : Rows.graftChecksRow.holds Try.pinned (OpenSpec.ofChange Rows.graftChecksSpec) :=
  OpenClaim.holds_of_wide 3 Try.f3 rfl rfl rfl rfl rfl rfl rfl ⟨rfl, rfl, rfl, rfl, rfl⟩ rfl rfl rfl rfl rfl (by kernel_rfl) Try.func3 (by kernel_rfl)
    (of_decide_eq_true (by kernel_rfl)) (by unfold Func.isWrapper; first | (rw [if_pos (by decide +kernel)]; kernel_rfl) | (rw [if_neg (by decide +kernel)]; exact ⟨rfl, rfl⟩))
    (fun os started H enc _ => lifted os started H enc)

theorem proved : Rows.GraftChecksSaid :=
  over
#print axioms proved
end Go.Proofs.Ytbmlafgolmmekaa.graftChecks
