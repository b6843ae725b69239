/- For every rank, shift and configuration and every list of weights, the adapter that the program's Shape makes, and its error, are the document's. -/
import Derived.Test.YtbmlafgolmmekaaRows
import Derived.Test.YtbmlafgolmmekaaView
import Derived.Test.YtbmlafgolmmekaaOwn
import Derived.Test.YtbmlafgolmmekaaCfg
import Derived.Test.YtbmlafgolmmekaaCfgs
import Derived.Test.YtbmlafgolmmekaaCfgRef
import Derived.Test.YtbmlafgolmmekaaHeld
import Derived.Test.YtbmlafgolmmekaaReader
import Derived.Test.YtbmlafgolmmekaaSls
import Derived.Test.YtbmlafgolmmekaaSteps
import Derived.Test.YtbmlafgolmmekaaInv
import Derived.Test.YtbmlafgolmmekaaTyped
import Derived.Test.YtbmlafgolmmekaaAds
import Derived.Test.YtbmlafgolmmekaaRanges
import Derived.Test.YtbmlafgolmmekaaCheck
import Derived.Test.YtbmlafgolmmekaaPlan
import Derived.Test.YtbmlafgolmmekaaFlat
import Derived.Test.YtbmlafgolmmekaaShape
import Derived.Test.YtbmlafgolmmekaaPush
import Derived.Test.YtbmlafgolmmekaaNext
import Derived.Test.YtbmlafgolmmekaaRefShape
import Derived.Test.YtbmlafgolmmekaaShapes
import Derived.Test.YtbmlafgolmmekaaRefWts
import Derived.Test.YtbmlafgolmmekaaPair
import Derived.Test.YtbmlafgolmmekaaSame
import Derived.Test.YtbmlafgolmmekaaRegs
import Derived.Test.YtbmlafgolmmekaaRegShp
import Derived.Test.YtbmlafgolmmekaaOpenCfg
import Derived.WalkKit
import Derived.ProofKit
import Derived.OpenShut
import Derived.ChangeOld
import Derived.Below
import Derived.WalkLawsBesides
import Derived.ChangeMaps5
import Derived.Orders
import Derived.Lib.SmallJoins
import Derived.Lib.QuietBelow
import Derived.Deep.RegionHeld3
import Derived.SizedLaws
namespace Go.Proofs.Ytbmlafgolmmekaa.graftShapes
open Go.ChangeShapes Go.WideShapes Go.ChangeAt Go.RowKit
set_option linter.unusedVariables false
set_option linter.unusedSimpArgs false

theorem own : ownKnob Try.prog.godebug = none := by kernel_rfl
theorem laidOut : laidOutB Try.prog = true := by kernel_rfl
theorem bytes62 : Try.prog.bytesOf 62 = 1 := by kernel_rfl


theorem shpD_out : ∀ i, i < 13 → ∀ s, shpD i = some s → s ∈ [9, 10, 13, 14, 15, 16, 17, 18, 19, 20, 21, 22] := by
  intro i hi s h
  have : ∀ i, i < 13 → (shpD i).all (fun d => decide (d ∈ [9, 10, 13, 14, 15, 16, 17, 18, 19, 20, 21, 22])) = true := by decide
  have := this i hi
  rw [h] at this
  simpa using this

theorem cfg_kept {w W : World} {cb : Nat} {cs : Array Value} (q : Blk 26 w cb cs) (hb : Below w.heap.size w W) : Blk 26 W cb cs := q.kept hb


set_option maxHeartbeats 4000000 in
set_option maxRecDepth 20000 in
theorem walk (a0 : Int) (a1 : Int) (cd2 ch2 cl2 cv2 cu2 cx2 ct2 cn2 : Int) (a3 : Option Addr) (n3 c3 : Nat) (z3 : List Int) (w : World) (w0 : (Lit.int .i64 a0).wf = true) (w1 : (Lit.int .i64 a1).wf = true)  (w3 : Reads .i8 w a3 n3 z3) (e3 : a3 = none → c3 = 0) (l3 : n3 ≤ c3) (b3 : n3 * 1 ≤ 140737488351232) :
    Calls Try.prog 5 #[.int .i64 a0, .int .i64 a1, .agg #[.int .i64 cd2, .int .i64 ch2, .int .i64 cl2, .int .i64 cv2, .int .i64 cu2, .int .i64 cx2, .int .i64 ct2, .int .i64 cn2], .slice a3 n3 c3] w fun e w' => e = .returned (.bool true) ∧ Below w.heap.size w w' := by
  have hF : IsS w ⟨a3, n3, c3⟩ z3 := ⟨w3, e3, l3⟩
  have hl3 := w3.len
  have k20 := fun W (s : SL) (h : IsS W s z3) => shape_at a0 a1 cd2 ch2 cl2 cv2 cu2 cx2 ct2 cn2 s z3 W h
  have k21 := fun W (h : IsS W ⟨a3, n3, c3⟩ z3) => refShape_call a0 a1 cd2 ch2 cl2 cv2 cu2 cx2 ct2 cn2 ⟨a3, n3, c3⟩ z3 W h
  have hln := shpM_ln a0 a1 cd2 ch2 cl2 cv2 cu2 cx2 ct2 cn2 z3
  obtain ⟨R', eR⟩ : ∃ z, shpI (shpOK a0 a1 cd2 ch2 cl2 cv2 cu2 cx2 ct2 cn2 z3.length) a0 = z := ⟨_, rfl⟩
  obtain ⟨S', eS⟩ : ∃ z, shpI (shpOK a0 a1 cd2 ch2 cl2 cv2 cu2 cx2 ct2 cn2 z3.length) a1 = z := ⟨_, rfl⟩
  obtain ⟨E, eE⟩ : ∃ z, shpE a0 a1 cd2 ch2 cl2 cv2 cu2 cx2 ct2 cn2 z3.length = z := ⟨_, rfl⟩
  obtain ⟨m, em⟩ : ∃ z, shpM a0 a1 cd2 ch2 cl2 cv2 cu2 cx2 ct2 cn2 z3 = z := ⟨_, rfl⟩
  simp only [eR, eS, eE, em] at k20 k21 hln
  clear eR eS eE em
  have k17 := fun W L L' Y Y' (hA : AdAt W L Y m) (hB : AdAt W L' Y' m) => sameA_call R' S' L L' Y Y' m W hA hB (by omega)
  have hb0 := below_new (Below.refl w.heap.size w) (.cells #[.int .i64 cd2, .int .i64 ch2, .int .i64 cl2, .int .i64 cv2, .int .i64 cu2, .int .i64 cx2, .int .i64 ct2, .int .i64 cn2] 26)
  have qc0 := Blk.new 26 w #[.int .i64 cd2, .int .i64 ch2, .int .i64 cl2, .int .i64 cv2, .int .i64 cu2, .int .i64 cx2, .int .i64 ct2, .int .i64 cn2]
  obtain ⟨W0, eW0⟩ : ∃ W, w.alloc (.cells #[.int .i64 cd2, .int .i64 ch2, .int .i64 cl2, .int .i64 cv2, .int .i64 cu2, .int .i64 cx2, .int .i64 ct2, .int .i64 cn2] 26) = W := ⟨_, rfl⟩
  rw [eW0] at hb0 qc0
  have EW := hidden_ eW0
  clear eW0
  go_enter Try.func5, Try.ntmps5
  go_wp2
  rw [EW.out]
  refine shp_region w.heap.size w.heap.size a0 a1 R' S' E (.agg #[.int .i64 cd2, .int .i64 ch2, .int .i64 cl2, .int .i64 cv2, .int .i64 cu2, .int .i64 cx2, .int .i64 ct2, .int .i64 cn2]) ⟨a3, n3, c3⟩ z3 m (by kernel_rfl) rfl ⟨_, rfl, rfl, rfl, rfl, by kernel_rfl⟩ ⟨_, rfl, rfl, rfl, rfl, by kernel_rfl⟩ ⟨_, rfl, rfl, rfl, rfl, by kernel_rfl⟩ ⟨_, rfl, rfl, rfl, rfl, by kernel_rfl⟩ ⟨_, rfl, rfl, rfl, rfl, by kernel_rfl⟩ ⟨_, rfl, rfl, rfl, rfl, by kernel_rfl⟩ ⟨_, rfl, rfl, rfl, rfl, by kernel_rfl⟩ ⟨_, rfl, rfl, rfl, rfl, by kernel_rfl⟩ ⟨_, rfl, rfl, rfl, rfl, by kernel_rfl⟩ ⟨_, rfl, rfl, rfl, rfl, by kernel_rfl⟩ ⟨_, rfl, rfl, rfl, rfl, by kernel_rfl⟩ ⟨_, rfl, rfl, rfl, rfl, by kernel_rfl⟩ ⟨_, rfl, rfl, rfl, rfl, by kernel_rfl⟩ rfl rfl rfl rfl hb0.size (fun W hW => run_load26 (qc0.kept hW)) (fun W hW => (hF.below hb0).below hW) (by omega) (fun W s _ h => k20 W s h) (Nat.le_of_ble_eq_true rfl) ?_
  intro a W1 hs hd hkp hb1 hv ⟨G, eG, hGB, L1, Y1, qG, ad1⟩
  have e10 : a.tmps.getD 10 undef = .int .i64 E := hv 12 10 (by decide) rfl
  have ep := frame_puts [9, 10, 13, 14, 15, 16, 17, 18, 19, 20, 21, 22] hs hd (fun s h => hkp s (by intro i hi e; exact h (shpD_out i hi s e)))
  simp only [List.foldl] at ep
  rw [eG, e10] at ep
  clear hs hd hkp hv eG e10
  generalize a.tmps.getD 13 undef = g13 at ep
  generalize a.tmps.getD 14 undef = g14 at ep
  generalize a.tmps.getD 15 undef = g15 at ep
  generalize a.tmps.getD 16 undef = g16 at ep
  generalize a.tmps.getD 17 undef = g17 at ep
  generalize a.tmps.getD 18 undef = g18 at ep
  generalize a.tmps.getD 19 undef = g19 at ep
  generalize a.tmps.getD 20 undef = g20 at ep
  generalize a.tmps.getD 21 undef = g21 at ep
  generalize a.tmps.getD 22 undef = g22 at ep
  simp only [Act.put, List.setIfInBounds_toArray, List.set_cons_succ, List.set_cons_zero] at ep
  subst ep
  replace qc0 := qc0.kept hb1
  replace hb0 := below_then hb0 hb1
  obtain ⟨c0', c1', c2', c3', c4', c5', c6', c7'⟩ := qc0.cfg
  clear hb1 k20
  go_wp2_with (first
    | (go_at_call 21; refine (k21 _ (hF.below hb0)).mono ?_; rintro e W2 ⟨L2, Y2, rfl, hN2, h2⟩; replace qG := qG.kept h2; replace ad1 := ad1.below h2; replace hb0 := below_then hb0 h2; have n3 := below_new (Below.refl W2.heap.size W2) (.cells #[.int .i64 R', .int .i64 S', .slice L2.a L2.n L2.c] 24); have qx : Blk 24 (W2.alloc (.cells #[.int .i64 R', .int .i64 S', .slice L2.a L2.n L2.c] 24)) W2.heap.size #[.int .i64 R', .int .i64 S', .slice L2.a L2.n L2.c] := Blk.new 24 W2 _; obtain ⟨W3, eW3⟩ : ∃ W, W2.alloc (.cells #[.int .i64 R', .int .i64 S', .slice L2.a L2.n L2.c] 24) = W := ⟨_, rfl⟩; rw [eW3] at n3 qx; replace qG := qG.kept n3; replace ad1 := ad1.below n3; have ad2 := (hN2.below n3).at_; replace hb0 := below_then hb0 n3; clear h2 n3 hN2 k21 c0' c1' c2' c3' c4' c5' c6' c7'; obtain ⟨g0, g1, g2⟩ := qG.c3; obtain ⟨y0, y1, y2⟩ := qx.c3)
    | (go_at_call 17; refine (k17 _ L1 L2 Y1 Y2 ad1 ad2).mono ?_; rintro e W4 ⟨rfl, h4⟩; replace hb0 := below_then hb0 h4; clear h4 k17))
  go_ret
  exact ⟨rfl, hb0⟩

theorem contract (H : Type) (enc : TypeId × Value → H) (W : World) (base : Nat) (args : Array Value) (ds gs : List (DataW H)) (before : List MemPlace)
    (hval0 : ∀ (j : Nat) t v, Try.f5.params[j]? = some t → args[j]? = some v → Value.okWide Try.prog W .any base t v)
    (hW : DataW.Whole enc Try.prog Try.f5.params.toList Rows.graftShapesSpec.vars false W args.toList ds gs before)
    (hsz0 : (DataW.weightsEach Try.prog (Try.f5.params.toList ++ Rows.graftShapesSpec.plain.varTypes Try.prog) (ds ++ gs)).all (· ≤ reachBytes) = true) :
    Calls Try.prog 5 args W fun e W' => ∃ v, e = .returned v ∧ Rows.graftShapesSpec.post enc Try.prog Try.f5 false true false false W args v W' := by
  have hval : ∀ (j : Nat) t v, Try.f5.params[j]? = some t → args[j]? = some v → Value.okWide Try.prog W .any base t v := hval0
  have hW' := hW
  obtain ⟨p, q, hA0, hV, rfl, hfz, hnd⟩ := hW
  have hA : DataW.TrodAll enc Try.prog W 0 (fun _ => true) true Try.f5.params.toList args.toList ds p := hA0
  have hsz : (DataW.weightsEach Try.prog (Try.f5.params.toList ++ Rows.graftShapesSpec.plain.varTypes Try.prog) (ds ++ gs)).all (· ≤ reachBytes) = true := hsz0
  rw [Try.params5] at hA hval hsz
  obtain ⟨v0, vs0, d0, ds0, p0, q0, hargs, rfl, rfl, h0, r0⟩ := trodAll_cons hA
  obtain ⟨v1, vs1, d1, ds1, p1, q1, rfl, rfl, rfl, h1, r1⟩ := trodAll_cons r0
  obtain ⟨v2, vs2, d2, ds2, p2, q2, rfl, rfl, rfl, h2, r2⟩ := trodAll_cons r1
  obtain ⟨v3, vs3, d3, ds3, p3, q3, rfl, rfl, rfl, h3, r3⟩ := trodAll_cons r2
  obtain ⟨rfl, rfl, rfl⟩ := trodAll_nil r3
  obtain rfl : args = #[v0, v1, v2, v3] := by cases args; simp_all
  obtain ⟨rfl, rfl⟩ := trodVars_none hV
  obtain ⟨a0, rfl, rfl, rfl, w0⟩ := open_int Try.underlying3 (hval 0 3 v0 rfl rfl) h0
  obtain ⟨a1, rfl, rfl, rfl, w1⟩ := open_int Try.underlying3 (hval 1 3 v1 rfl rfl) h1
  have k2 := h2
  have lt2 : ∀ x ∈ p2, x.block < W.heap.size := by obtain ⟨m, hm⟩ := k2; exact DataW.trod_lt m _ _ _ hm
  obtain ⟨cd2, ch2, cl2, cv2, cu2, cx2, ct2, cn2, rfl⟩ := open_cfg (hval 2 26 v2 rfl rfl) h2
  obtain ⟨a3, n3, c3, rfl⟩ := okWide_slice Try.underlying33 (hval 3 33 v3 rfl rfl)
  have k3 := h3
  have lt3 : ∀ x ∈ p3, x.block < W.heap.size := by obtain ⟨m, hm⟩ := k3; exact DataW.trod_lt m _ _ _ hm
  obtain ⟨z3, w3, e3, l3, s3⟩ : ∃ zs, Reads .i8 W a3 n3 zs ∧ (a3 = none → c3 = 0) ∧ n3 ≤ c3 ∧ (n3 = 0 ∨ ∃ el sp, d3 = .slice el sp ∧ n3 ≤ el.length + sp.length) := by
    obtain ⟨fuel, hf⟩ := h3
    rcases open_ints Try.underlying33 Try.underlying62 (by kernel_rfl) hf with ⟨hcs, hd⟩ | ⟨x, l, c, zs, hcs, _, hl, hm, hz, hd, hcell, hwz⟩
    · simp [Value.cells] at hcs
      obtain ⟨rfl, rfl, rfl⟩ := hcs
      exact ⟨[], Reads.nil _ _, fun _ => rfl, Nat.le_refl _, .inl rfl⟩
    · simp [Value.cells] at hcs
      obtain ⟨rfl, rfl, rfl⟩ := hcs
      exact ⟨_, Reads.of_open hl hm (by simpa using hz) hcell hwz, (fun h => by cases h), hl, .inr ⟨_, _, congrArg Prod.fst hd, open_length (by simpa using hz) hl⟩⟩
  have b3 : n3 * 1 ≤ 140737488351232 := by
    rcases s3 with rfl | ⟨el, sp, rfl, hle⟩
    · decide
    · have := sized_slice hsz (j := 3) (t := 33) (e := 62) rfl rfl Try.underlying33
      rw [bytes62] at this
      simp only [reachBytes] at this
      omega
  clear hA0 hval0
  refine (walk a0 a1 cd2 ch2 cl2 cv2 cu2 cx2 ct2 cn2 a3 n3 c3 z3 W w0 w1  w3 e3 l3 b3).mono fun e W' ⟨he, bel⟩ => ?_
  subst he
  exact ⟨_, rfl, _, _, _, [], _, [], hW', trodAll_mk1 (shut_bool Try.underlying4 _), (trodAll_cons_mk (shut_int Try.underlying3 w0) (trodAll_cons_mk (shut_int Try.underlying3 w1) (trodAll_cons_mk (Below.trod laidOut (by kernel_rfl) (of_decide_eq_true (by kernel_rfl)) k2 bel lt2) (trodAll_cons_mk (Below.trod laidOut (by kernel_rfl) (of_decide_eq_true (by kernel_rfl)) k3 bel lt3) trodAll_mk0)))), rfl, bel.frame _, fun h => by cases h⟩

set_option maxRecDepth 100000 in
theorem lifted (os : Os) (started : os.Started) (H : Type) (enc : TypeId × Value → H) :
    ReturnsInHanded {} Try.checked os 5 .any (Rows.graftShapesSpec.pre6 enc Try.prog Try.f5 Rows.graftShapesRow.domain false) (Rows.graftShapesSpec.post enc Try.prog Try.f5 false true false false) := by
  refine returnsInHanded_of_change_sized (C := Try.checked) own started (by kernel_rfl) Try.func5
    (ChangeSpec.witness6 (enc := enc) (C := Try.checked) false ⟨#[], #[.int .i64 0, .int .i64 0, .agg #[.int .i64 0, .int .i64 0, .int .i64 0, .int .i64 0, .int .i64 0, .int .i64 0, .int .i64 0, .int .i64 0], .slice none 0 0], []⟩ 8 (by kernel_rfl) (by kernel_rfl) (by kernel_rfl) (by kernel_rfl)) ?_
  intro W base args ds gs before hval hW _ hsz _
  exact contract H enc W base args ds gs before hval hW hsz

theorem over : Rows.graftShapesRow.holds Try.pinned (OpenSpec.ofChange Rows.graftShapesSpec) :=
  OpenClaim.holds_of_wide 5 Try.f5 rfl rfl rfl rfl rfl rfl rfl ⟨rfl, rfl, rfl, rfl, rfl⟩ rfl rfl rfl rfl rfl (by kernel_rfl) Try.func5 (by kernel_rfl)
    (of_decide_eq_true (by kernel_rfl)) (by unfold Func.isWrapper; first | (rw [if_pos (by decide +kernel)]; kernel_rfl) | (rw [if_neg (by decide +kernel)]; exact ⟨rfl, rfl⟩))
    (fun os started H enc _ => lifted os started H enc)

theorem proved : Rows.GraftShapesSaid :=
  over
#print axioms proved
end Go.Proofs.Ytbmlafgolmmekaa.graftShapes
