/- For every text of at most 40000 bytes and every configuration, the adapter that the program's Decode reads, and its error, are the document's (longer texts are let pass). -/
import Derived.Test.YtbmlafgolmmekaaRows
import Derived.Test.YtbmlafgolmmekaaView
import Derived.Test.YtbmlafgolmmekaaOwn
import Derived.Test.YtbmlafgolmmekaaTexts
import Derived.Test.YtbmlafgolmmekaaSums
import Derived.Test.YtbmlafgolmmekaaSeals
import Derived.Test.YtbmlafgolmmekaaOpens
import Derived.Test.YtbmlafgolmmekaaWts
import Derived.Test.YtbmlafgolmmekaaCfg
import Derived.Test.YtbmlafgolmmekaaCfgs
import Derived.Test.YtbmlafgolmmekaaCfgRef
import Derived.Test.YtbmlafgolmmekaaHeld
import Derived.Test.YtbmlafgolmmekaaReader
import Derived.Test.YtbmlafgolmmekaaSls
import Derived.Test.YtbmlafgolmmekaaSteps
import Derived.Test.YtbmlafgolmmekaaTwos
import Derived.Test.YtbmlafgolmmekaaRdWts
import Derived.Test.YtbmlafgolmmekaaRefWts
import Derived.Test.YtbmlafgolmmekaaInv
import Derived.Test.YtbmlafgolmmekaaTyped
import Derived.Test.YtbmlafgolmmekaaAds
import Derived.Test.YtbmlafgolmmekaaRanges
import Derived.Test.YtbmlafgolmmekaaPrefix
import Derived.Test.YtbmlafgolmmekaaCheck
import Derived.Test.YtbmlafgolmmekaaPlan
import Derived.Test.YtbmlafgolmmekaaFlat
import Derived.Test.YtbmlafgolmmekaaShape
import Derived.Test.YtbmlafgolmmekaaPush
import Derived.Test.YtbmlafgolmmekaaNext
import Derived.Test.YtbmlafgolmmekaaRefShape
import Derived.Test.YtbmlafgolmmekaaShapes
import Derived.Test.YtbmlafgolmmekaaPair
import Derived.Test.YtbmlafgolmmekaaSame
import Derived.Test.YtbmlafgolmmekaaRegs
import Derived.Test.YtbmlafgolmmekaaBody
import Derived.Test.YtbmlafgolmmekaaDecode
import Derived.Test.YtbmlafgolmmekaaRefDec
import Derived.Test.YtbmlafgolmmekaaOpenCfg
import Derived.WalkKit
import Derived.ProofKit
import Derived.OpenShut
import Derived.ChangeOld
import Derived.Below
import Derived.WalkLawsBesides
import Derived.ChangeMaps5
import Derived.Lib.SmallJoins
namespace Go.Proofs.Ytbmlafgolmmekaa.graftReads
open Go.ChangeShapes Go.WideShapes Go.ChangeAt Go.RowKit
set_option linter.unusedVariables false
set_option linter.unusedSimpArgs false

theorem own : ownKnob Try.prog.godebug = none := by kernel_rfl
theorem laidOut : laidOutB Try.prog = true := by kernel_rfl


theorem bodyM_ln {d h l v u x t n : Int} {s : ByteArray} (hd : decOK d h l v u x t n s = true) : okA (rk (bodyS (openT s))) (sf (bodyS (openT s))) d h l v u x t n = true := by
  unfold decOK bodyOK at hd
  simp only [Bool.and_eq_true] at hd
  exact hd.2.2.1
theorem decM_ln (d h l v u x t n : Int) (s : ByteArray) : (decM d h l v u x t n s).ln ≤ 2 := by
  unfold decM
  split
  · rename_i hd
    exact (numsA_of (bodyM_ln hd)).m1
  · show 0 ≤ 2
    omega


set_option maxHeartbeats 4000000 in
set_option maxRecDepth 20000 in
theorem walk (a0 : ByteArray) (cd1 ch1 cl1 cv1 cu1 cx1 ct1 cn1 : Int) (w : World) (w0 : a0.size ≤ maxLen)  :
    Calls Try.prog 4 #[.string a0, .agg #[.int .i64 cd1, .int .i64 ch1, .int .i64 cl1, .int .i64 cv1, .int .i64 cu1, .int .i64 cx1, .int .i64 ct1, .int .i64 cn1]] w fun e w' => e = .returned (.bool true) ∧ Below w.heap.size w w' := by
  by_cases hl : a0.size ≤ 40000
  · have k18 := fun W => decode_call cd1 ch1 cl1 cv1 cu1 cx1 ct1 cn1 a0 W (by omega)
    have k19 := fun W => refDecode_call cd1 ch1 cl1 cv1 cu1 cx1 ct1 cn1 a0 W (by omega)
    have hln := decM_ln cd1 ch1 cl1 cv1 cu1 cx1 ct1 cn1 a0
    obtain ⟨R', eR⟩ : ∃ z, decR cd1 ch1 cl1 cv1 cu1 cx1 ct1 cn1 a0 = z := ⟨_, rfl⟩
    obtain ⟨S', eS⟩ : ∃ z, decS cd1 ch1 cl1 cv1 cu1 cx1 ct1 cn1 a0 = z := ⟨_, rfl⟩
    obtain ⟨E, eE⟩ : ∃ z, decE cd1 ch1 cl1 cv1 cu1 cx1 ct1 cn1 a0 = z := ⟨_, rfl⟩
    obtain ⟨m, em⟩ : ∃ z, decM cd1 ch1 cl1 cv1 cu1 cx1 ct1 cn1 a0 = z := ⟨_, rfl⟩
    simp only [eR, eS, eE, em] at k18 k19 hln
    clear eR eS eE em
    have k17 := fun W L L' Y Y' (hA : AdAt W L Y m) (hB : AdAt W L' Y' m) => sameA_call R' S' L L' Y Y' m W hA hB (by omega)
    have hb := below_new (Below.refl w.heap.size w) (.cells #[.int .i64 cd1, .int .i64 ch1, .int .i64 cl1, .int .i64 cv1, .int .i64 cu1, .int .i64 cx1, .int .i64 ct1, .int .i64 cn1] 26)
    have qc := Blk.new 26 w #[.int .i64 cd1, .int .i64 ch1, .int .i64 cl1, .int .i64 cv1, .int .i64 cu1, .int .i64 cx1, .int .i64 ct1, .int .i64 cn1]
    obtain ⟨c0, c1, c2, c3, c4, c5, c6, c7⟩ := qc.cfg
    have hl' : ¬ (40000 : Int) < (a0.size : Int) := by omega
    go_enter Try.func4, Try.ntmps4
    go_wp2_with (first
      | (go_at_call 18; refine (k18 _).mono ?_; rintro e W1 ⟨L1, Y1, rfl, hN1, h1⟩; have b2 := below_new (Below.refl W1.heap.size W1) (.cells #[.int .i64 R', .int .i64 S', .slice L1.a L1.n L1.c] 24); have q1 : Blk 24 (W1.alloc (.cells #[.int .i64 R', .int .i64 S', .slice L1.a L1.n L1.c] 24)) W1.heap.size #[.int .i64 R', .int .i64 S', .slice L1.a L1.n L1.c] := Blk.new 24 W1 _; obtain ⟨W2, eW2⟩ : ∃ W, W1.alloc (.cells #[.int .i64 R', .int .i64 S', .slice L1.a L1.n L1.c] 24) = W := ⟨_, rfl⟩; rw [eW2] at b2 q1; have ad1 := (hN1.below b2).at_; have b1 := below_then h1 b2; replace hb := below_then hb b1; replace qc := qc.kept b1; clear h1 b1 b2 hN1 k18 c0 c1 c2 c3 c4 c5 c6 c7; obtain ⟨c0, c1, c2, c3, c4, c5, c6, c7⟩ := qc.cfg)
      | (go_at_call 19; refine (k19 _).mono ?_; rintro e W3 ⟨L2, Y2, rfl, hN2, h1⟩; have b2 := below_new (Below.refl W3.heap.size W3) (.cells #[.int .i64 R', .int .i64 S', .slice L2.a L2.n L2.c] 24); have q2 : Blk 24 (W3.alloc (.cells #[.int .i64 R', .int .i64 S', .slice L2.a L2.n L2.c] 24)) W3.heap.size #[.int .i64 R', .int .i64 S', .slice L2.a L2.n L2.c] := Blk.new 24 W3 _; obtain ⟨W4, eW4⟩ : ∃ W, W3.alloc (.cells #[.int .i64 R', .int .i64 S', .slice L2.a L2.n L2.c] 24) = W := ⟨_, rfl⟩; rw [eW4] at b2 q2; have ad2 := (hN2.below b2).at_; have b1 := below_then h1 b2; replace hb := below_then hb b1; replace q1 := q1.kept b1; replace ad1 := ad1.below b1; clear h1 b1 b2 hN2 k19 c0 c1 c2 c3 c4 c5 c6 c7; obtain ⟨x0, x1, x2⟩ := q1.c3; obtain ⟨y0, y1, y2⟩ := q2.c3)
      | (go_at_call 17; refine (k17 _ L1 L2 Y1 Y2 ad1 ad2).mono ?_; rintro e W5 ⟨rfl, h4⟩; replace hb := below_then hb h4; clear h4 k17))
    go_ret
    exact ⟨rfl, hb⟩
  · have hl' : (40000 : Int) < (a0.size : Int) := by omega
    have hb := below_new (Below.refl w.heap.size w) (.cells #[.int .i64 cd1, .int .i64 ch1, .int .i64 cl1, .int .i64 cv1, .int .i64 cu1, .int .i64 cx1, .int .i64 ct1, .int .i64 cn1] 26)
    have hm : a0.size ≤ 9223372036854775807 := by unfold maxLen at w0; omega
    go_enter Try.func4, Try.ntmps4
    go_wp2
    go_ret
    exact ⟨rfl, hb⟩

theorem contract (H : Type) (enc : TypeId × Value → H) (W : World) (base : Nat) (args : Array Value) (ds gs : List (DataW H)) (before : List MemPlace)
    (hval0 : ∀ (j : Nat) t v, Try.f4.params[j]? = some t → args[j]? = some v → Value.okWide Try.prog W .any base t v)
    (hW : DataW.Whole enc Try.prog Try.f4.params.toList Rows.graftReadsSpec.vars false W args.toList ds gs before) :
    Calls Try.prog 4 args W fun e W' => ∃ v, e = .returned v ∧ Rows.graftReadsSpec.post enc Try.prog Try.f4 false true false false W args v W' := by
  have hval : ∀ (j : Nat) t v, Try.f4.params[j]? = some t → args[j]? = some v → Value.okWide Try.prog W .any base t v := hval0
  have hW' := hW
  obtain ⟨p, q, hA0, hV, rfl, hfz, hnd⟩ := hW
  have hA : DataW.TrodAll enc Try.prog W 0 (fun _ => true) true Try.f4.params.toList args.toList ds p := hA0
  rw [Try.params4] at hA hval
  obtain ⟨v0, vs0, d0, ds0, p0, q0, hargs, rfl, rfl, h0, r0⟩ := trodAll_cons hA
  obtain ⟨v1, vs1, d1, ds1, p1, q1, rfl, rfl, rfl, h1, r1⟩ := trodAll_cons r0
  obtain ⟨rfl, rfl, rfl⟩ := trodAll_nil r1
  obtain rfl : args = #[v0, v1] := by cases args; simp_all
  obtain ⟨rfl, rfl⟩ := trodVars_none hV
  obtain ⟨a0, rfl, rfl, rfl, w0⟩ := Go.ChangeMaps.open_string Try.underlying9 (hval 0 9 v0 rfl rfl) h0
  have k1 := h1
  have lt1 : ∀ x ∈ p1, x.block < W.heap.size := by obtain ⟨m, hm⟩ := k1; exact DataW.trod_lt m _ _ _ hm
  obtain ⟨cd1, ch1, cl1, cv1, cu1, cx1, ct1, cn1, rfl⟩ := open_cfg (hval 1 26 v1 rfl rfl) h1
  clear hA0 hval0
  refine (walk a0 cd1 ch1 cl1 cv1 cu1 cx1 ct1 cn1 W w0 ).mono fun e W' ⟨he, bel⟩ => ?_
  subst he
  exact ⟨_, rfl, _, _, _, [], _, [], hW', trodAll_mk1 (shut_bool Try.underlying4 _), (trodAll_cons_mk (Go.ChangeMaps.shut_string Try.underlying9 w0) (trodAll_cons_mk (Below.trod laidOut (by kernel_rfl) (of_decide_eq_true (by kernel_rfl)) k1 bel lt1) trodAll_mk0)), rfl, bel.frame _, fun h => by cases h⟩

set_option maxRecDepth 100000 in
theorem lifted (os : Os) (started : os.Started) (H : Type) (enc : TypeId × Value → H) :
    ReturnsInHanded {} Try.checked os 4 .any (Rows.graftReadsSpec.pre6 enc Try.prog Try.f4 Rows.graftReadsRow.domain false) (Rows.graftReadsSpec.post enc Try.prog Try.f4 false true false false) := by
  refine returnsInHanded_of_change (C := Try.checked) own started (by kernel_rfl) Try.func4
    (ChangeSpec.witness6 (enc := enc) (C := Try.checked) false ⟨#[], #[.string ⟨#[]⟩, .agg #[.int .i64 0, .int .i64 0, .int .i64 0, .int .i64 0, .int .i64 0, .int .i64 0, .int .i64 0, .int .i64 0]], []⟩ 8 (by kernel_rfl) (by kernel_rfl) (by kernel_rfl) (by kernel_rfl)) ?_
  intro W base args ds gs before hval hW _ _
  exact contract H enc W base args ds gs before hval hW

theorem over : Rows.graftReadsRow.holds Try.pinned (OpenSpec.ofChange Rows.graftReadsSpec) :=
  OpenClaim.holds_of_wide 4 Try.f4 rfl rfl rfl rfl rfl rfl rfl ⟨rfl, rfl, rfl, rfl, rfl⟩ rfl rfl rfl rfl rfl (by kernel_rfl) Try.func4 (by kernel_rfl)
    (of_decide_eq_true (by kernel_rfl)) (by unfold Func.isWrapper; first | (rw [if_pos (by decide +kernel)]; kernel_rfl) | (rw [if_neg (by decide +kernel)]; exact ⟨rfl, rfl⟩))
    (fun os started H enc _ => lifted os started H enc)

theorem proved : Rows.GraftReadsSaid :=
  over
#print axioms proved
end Go.Proofs.Ytbmlafgolmmekaa.graftReads
