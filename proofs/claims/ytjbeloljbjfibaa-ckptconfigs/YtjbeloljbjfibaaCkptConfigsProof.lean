/- For every configuration (eight numbers of 64 bits) the program's Config and Size answer what the document's do; the argument stays as it was. -/
import Derived.Test.YtjbeloljbjfibaaRows
import Derived.Test.YtjbeloljbjfibaaView
import Derived.Test.YtjbeloljbjfibaaOwn
import Derived.Test.YtjbeloljbjfibaaCfg
import Derived.Test.YtjbeloljbjfibaaCfgs
import Derived.Test.YtjbeloljbjfibaaCfgRef
import Derived.Test.YtjbeloljbjfibaaHeld
import Derived.Test.YtjbeloljbjfibaaTexts
import Derived.Test.YtjbeloljbjfibaaSums
import Derived.Test.YtjbeloljbjfibaaSeals
import Derived.Test.YtjbeloljbjfibaaReader
import Derived.Test.YtjbeloljbjfibaaBlank
import Derived.Test.YtjbeloljbjfibaaSize
import Derived.Test.YtjbeloljbjfibaaSizes
import Derived.Test.YtjbeloljbjfibaaOpenCfg
import Derived.WalkKit
import Derived.ProofKit
import Derived.OpenShut
import Derived.ChangeOld
import Derived.Below
import Derived.WalkLawsBesides
import Derived.ChangeMaps5
import Derived.Deep.RegionHeld3
namespace Go.Proofs.Ytjbeloljbjfibaa.ckptConfigs
open Go.ChangeShapes Go.WideShapes Go.ChangeAt Go.RowKit
set_option linter.unusedVariables false
set_option linter.unusedSimpArgs false

theorem own : ownKnob Try.prog.godebug = none := by kernel_rfl
theorem laidOut : laidOutB Try.prog = true := by kernel_rfl


set_option maxHeartbeats 4000000 in
theorem walk (cd0 ch0 cl0 cv0 cu0 cx0 ct0 cn0 : Int) (w : World)  :
    Calls Try.prog 3 #[.agg #[.int .i64 cd0, .int .i64 ch0, .int .i64 cl0, .int .i64 cv0, .int .i64 cu0, .int .i64 cx0, .int .i64 ct0, .int .i64 cn0]] w fun e w' => e = .returned (.bool true) ∧ Below w.heap.size w w' := by
  have hb := below_new (Below.refl w.heap.size w) (.cells #[.int .i64 cd0, .int .i64 ch0, .int .i64 cl0, .int .i64 cv0, .int .i64 cu0, .int .i64 cx0, .int .i64 ct0, .int .i64 cn0] 23)
  have key := Blk.new 23 w #[.int .i64 cd0, .int .i64 ch0, .int .i64 cl0, .int .i64 cv0, .int .i64 cu0, .int .i64 cx0, .int .i64 ct0, .int .i64 cn0]
  obtain ⟨c0, c1, c2, c3, c4, c5, c6, c7⟩ := key.cfg
  have k9 := config_call cd0 ch0 cl0 cv0 cu0 cx0 ct0 cn0
  have k10 := refConfig_call cd0 ch0 cl0 cv0 cu0 cx0 ct0 cn0
  have k11 := size_call cd0 ch0 cl0 cv0 cu0 cx0 ct0 cn0
  have k12 := refSize_call cd0 ch0 cl0 cv0 cu0 cx0 ct0 cn0
  obtain ⟨B, eB⟩ : ∃ B, okB cd0 ch0 cl0 cv0 cu0 cx0 ct0 cn0 = B := ⟨_, rfl⟩
  obtain ⟨Z, eZ⟩ : ∃ Z, sizeB cd0 ch0 cl0 cv0 cu0 cx0 ct0 cn0 = Z := ⟨_, rfl⟩
  simp only [eB] at k9 k10
  simp only [eZ] at k11 k12
  clear eB eZ
  have bb : (B == B) = true := by simp
  have zz : (Z == Z) = true := by simp
  obtain ⟨W0, eW⟩ : ∃ W0, w.alloc (.cells #[.int .i64 cd0, .int .i64 ch0, .int .i64 cl0, .int .i64 cv0, .int .i64 cu0, .int .i64 cx0, .int .i64 ct0, .int .i64 cn0] 23) = W0 := ⟨_, rfl⟩
  rw [eW] at hb key c0 c1 c2 c3 c4 c5 c6 c7
  have EW := hidden_ eW
  clear eW
  go_enter Try.func3, Try.ntmps3
  go_wp2
  rw [EW.out]
  clear EW
  replace key : Blk 23 W0.drew w.heap.size _ := key
  replace hb : Below w.heap.size w W0.drew := below_drew hb ⟨1, rfl⟩
  go_region_held3 (fun W => W.cell? ⟨w.heap.size, 0, none⟩ = some (.int .i64 cd0) ∧ W.cell? ⟨w.heap.size, 1, none⟩ = some (.int .i64 ch0) ∧ W.cell? ⟨w.heap.size, 2, none⟩ = some (.int .i64 cl0) ∧ W.cell? ⟨w.heap.size, 3, none⟩ = some (.int .i64 cv0) ∧ W.cell? ⟨w.heap.size, 4, none⟩ = some (.int .i64 cu0) ∧ W.cell? ⟨w.heap.size, 5, none⟩ = some (.int .i64 cx0) ∧ W.cell? ⟨w.heap.size, 6, none⟩ = some (.int .i64 ct0) ∧ W.cell? ⟨w.heap.size, 7, none⟩ = some (.int .i64 cn0)) (exact ⟨c0, c1, c2, c3, c4, c5, c6, c7⟩) (first
    | (go_at_call 9; refine (k9 _).mono ?_; rintro e W1 ⟨rfl, h2⟩; replace key := key.kept h2; clear c0 c1 c2 c3 c4 c5 c6 c7; obtain ⟨c0, c1, c2, c3, c4, c5, c6, c7⟩ := key.cfg; replace hb := below_then hb h2; clear h2)
    | (go_at_call 10; refine (k10 _).mono ?_; rintro e W1 ⟨rfl, h2⟩; replace key := key.kept h2; clear c0 c1 c2 c3 c4 c5 c6 c7; obtain ⟨c0, c1, c2, c3, c4, c5, c6, c7⟩ := key.cfg; replace hb := below_then hb h2; clear h2)
    | (go_at_call 11; refine (k11 _).mono ?_; rintro e W1 ⟨rfl, h2⟩; replace key := key.kept h2; clear c0 c1 c2 c3 c4 c5 c6 c7; obtain ⟨c0, c1, c2, c3, c4, c5, c6, c7⟩ := key.cfg; replace hb := below_then hb h2; clear h2)
    | (go_at_call 12; refine (k12 _).mono ?_; rintro e W1 ⟨rfl, h2⟩; replace key := key.kept h2; clear c0 c1 c2 c3 c4 c5 c6 c7; obtain ⟨c0, c1, c2, c3, c4, c5, c6, c7⟩ := key.cfg; replace hb := below_then hb h2; clear h2))
  all_goals
    go_wp2
    go_ret
    exact ⟨rfl, hb⟩

theorem contract (H : Type) (enc : TypeId × Value → H) (W : World) (base : Nat) (args : Array Value) (ds gs : List (DataW H)) (before : List MemPlace)
    (hval0 : ∀ (j : Nat) t v, Try.f3.params[j]? = some t → args[j]? = some v → Value.okWide Try.prog W .any base t v)
    (hW : DataW.Whole enc Try.prog Try.f3.params.toList Rows.ckptConfigsSpec.vars false W args.toList ds gs before) :
    Calls Try.prog 3 args W fun e W' => ∃ v, e = .returned v ∧ Rows.ckptConfigsSpec.post enc Try.prog Try.f3 false true false false W args v W' := by
  have hval : ∀ (j : Nat) t v, Try.f3.params[j]? = some t → args[j]? = some v → Value.okWide Try.prog W .any base t v := hval0
  have hW' := hW
  obtain ⟨p, q, hA0, hV, rfl, hfz, hnd⟩ := hW
  have hA : DataW.TrodAll enc Try.prog W 0 (fun _ => true) true Try.f3.params.toList args.toList ds p := hA0
  rw [Try.params3] at hA hval
  obtain ⟨v0, vs0, d0, ds0, p0, q0, hargs, rfl, rfl, h0, r0⟩ := trodAll_cons hA
  obtain ⟨rfl, rfl, rfl⟩ := trodAll_nil r0
  obtain rfl : args = #[v0] := by cases args; simp_all
  obtain ⟨rfl, rfl⟩ := trodVars_none hV
  have k0 := h0
  have lt0 : ∀ x ∈ p0, x.block < W.heap.size := by obtain ⟨m, hm⟩ := k0; exact DataW.trod_lt m _ _ _ hm
  obtain ⟨cd0, ch0, cl0, cv0, cu0, cx0, ct0, cn0, rfl⟩ := open_cfg (hval 0 23 v0 rfl rfl) h0
  clear hA0 hval0
  refine (walk cd0 ch0 cl0 cv0 cu0 cx0 ct0 cn0 W ).mono fun e W' ⟨he, bel⟩ => ?_
  subst he
  exact ⟨_, rfl, _, _, _, [], _, [], hW', trodAll_mk1 (shut_bool Try.underlying4 _), (trodAll_cons_mk (Below.trod laidOut (by kernel_rfl) (of_decide_eq_true (by kernel_rfl)) k0 bel lt0) trodAll_mk0), rfl, bel.frame _, fun h => by cases h⟩

set_option maxRecDepth 100000 in
theorem lifted (os : Os) (started : os.Started) (H : Type) (enc : TypeId × Value → H) :
    ReturnsInHanded {} Try.checked os 3 .any (Rows.ckptConfigsSpec.pre6 enc Try.prog Try.f3 Rows.ckptConfigsRow.domain false) (Rows.ckptConfigsSpec.post enc Try.prog Try.f3 false true false false) := by
  refine returnsInHanded_of_change (C := Try.checked) own started (by kernel_rfl) Try.func3
    (ChangeSpec.witness6 (enc := enc) (C := Try.checked) false ⟨#[], #[.agg #[.int .i64 0, .int .i64 0, .int .i64 0, .int .i64 0, .int .i64 0, .int .i64 0, .int .i64 0, .int .i64 0]], []⟩ 8 (by kernel_rfl) (by kernel_rfl) (by kernel_rfl) (by kernel_rfl)) ?_
  intro W base args ds gs before hval hW _ _
  exact contract H enc W base args ds gs before hval hW

theorem over : Rows.ckptConfigsRow.holds Try.pinned (OpenSpec.ofChange Rows.ckptConfigsSpec) :=
  OpenClaim.holds_of_wide 3 Try.f3 rfl rfl rfl rfl rfl rfl rfl ⟨rfl, rfl, rfl, rfl, rfl⟩ rfl rfl rfl rfl rfl (by kernel_rfl) Try.func3 (by kernel_rfl)
    (of_decide_eq_true (by kernel_rfl)) (by unfold Func.isWrapper; first | (rw [if_pos (by decide +kernel)]; kernel_rfl) | (rw [if_neg (by decide +kernel)]; exact ⟨rfl, rfl⟩))
    (fun os started H enc _ => lifted os started H enc)

theorem proved : Rows.CkptConfigsSaid :=
  over
#print axioms proved
end Go.Proofs.Ytjbeloljbjfibaa.ckptConfigs
