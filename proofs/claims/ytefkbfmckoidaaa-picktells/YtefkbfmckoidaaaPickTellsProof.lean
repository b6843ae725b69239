/- Of any row (longer ones than 40 are passed over) the program's Max, Top and Rank answer what the document's do, whatever k and i are, and leave the row as it was; no condition. -/
import Derived.Test.YtefkbfmckoidaaaRows
import Derived.Test.YtefkbfmckoidaaaView
import Derived.Test.YtefkbfmckoidaaaOwn
import Derived.Test.YtefkbfmckoidaaaSteps
import Derived.Test.YtefkbfmckoidaaaSame
import Derived.Test.YtefkbfmckoidaaaOrder
import Derived.Test.YtefkbfmckoidaaaRank
import Derived.Test.YtefkbfmckoidaaaTop
import Derived.Test.YtefkbfmckoidaaaRef
import Derived.Test.YtefkbfmckoidaaaRefTop
import Derived.WalkKit
import Derived.ProofKit
import Derived.OpenShut
import Derived.ChangeOld
import Derived.Below
import Derived.WalkLawsBesides
namespace Go.Proofs.Ytefkbfmckoidaaa.pickTells
open Go.ChangeShapes Go.WideShapes Go.ChangeAt Go.RowKit
set_option linter.unusedVariables false
set_option linter.unusedSimpArgs false

theorem own : ownKnob Try.prog.godebug = none := by kernel_rfl
theorem laidOut : laidOutB Try.prog = true := by kernel_rfl


set_option maxHeartbeats 1000000 in
theorem walk (a0 : Option Addr) (n0 c0 : Nat) (z0 : List Int) (a1 : Int) (a2 : Int) (w : World) (w0 : Reads .i64 w a0 n0 z0) (e0 : a0 = none → c0 = 0) (l0 : n0 ≤ c0) (w1 : (Lit.int .i64 a1).wf = true) (w2 : (Lit.int .i64 a2).wf = true) :
    Calls Try.prog 3 #[.slice a0 n0 c0, .int .i64 a1, .int .i64 a2] w fun e w' => e = .returned (.bool true) ∧ Below w.heap.size w w' := by
  obtain ⟨i0, hi, hz0, hz1, hz2⟩ := info_parts info2
  have hm := w0.max
  by_cases h : 40 < n0
  · have h' : (40 : Int) < (n0 : Int) := by omega
    go_enter Try.func3, Try.ntmps3
    go_wp2_with fail
    go_ret
    exact ⟨rfl, Below.refl _ _⟩
  have hn : (n0 : Int) ≤ 40 := by omega
  have k7 := fun p q W (r : Reads .i64 W p n0 z0) => max_call p n0 q z0 W r
  have k8 := fun W (r : Reads .i64 W a0 n0 z0) => refMax_call a0 n0 c0 z0 W r (by omega)
  have k10 := fun p q W (r : Reads .i64 W p n0 z0) => top_call p n0 q z0 a1 W r (by omega)
  have k11 := fun W (r : Reads .i64 W a0 n0 z0) => refTop_call a0 n0 c0 z0 a1 W r (by omega)
  have k12 := fun p q W (r : Reads .i64 W p n0 z0) => rank_call p n0 q z0 a2 W r
  have k13 := fun W (r : Reads .i64 W a0 n0 z0) => refRank_call a0 n0 c0 z0 a2 W r
  obtain ⟨X, eX⟩ : ∃ X, maxZ z0 = X := ⟨_, rfl⟩
  obtain ⟨R, eR⟩ : ∃ R, rankZ z0 a2 = R := ⟨_, rfl⟩
  obtain ⟨L, eL⟩ : ∃ L, topZ z0 a1 = L := ⟨_, rfl⟩
  obtain ⟨M, eM⟩ : ∃ M, min a1.toNat n0 = M := ⟨_, rfl⟩
  rw [eX] at k7 k8
  rw [eL, eM] at k10 k11
  rw [eR] at k12 k13
  clear eX eR eL eM h
  have hb := Below.refl w.heap.size w
  go_enter Try.func3, Try.ntmps3
  go_wp2_with (first
    | (at_builtin; refine wpList_copy rfl (.tmp 11) (.tmp 12) 22 rfl w.heap.size 2 i0 (.int .i64 0) 8 Try.underlying22 hi hz0 hz1 hz2 rfl _ 0 [] rfl (World.ownsRow_lit _ #[] 0 hb.size (by decide) rfl) .i64 a0 n0 c0 z0 rfl (w0.below (below_new hb _)) e0 (by unfold maxLen; omega) (by omega) (below_new hb _).size ?_; intro v1 W1 ho1 hg1; obtain ⟨p1, q1, rfl, r1, hb1, -⟩ := copied hb _ ho1 hg1 w0; clear ho1 hg1)
    | (go_at_call 7; refine (k7 _ _ _ r1).mono ?_; rintro e W2 ⟨rfl, hb2⟩; replace r1 := r1.below hb2; replace hb1 := below_then hb1 hb2; clear hb2)
    | (go_at_call 8; refine (k8 _ (w0.below hb1)).mono ?_; rintro e W3 ⟨rfl, hb2⟩; replace r1 := r1.below hb2; replace hb1 := below_then hb1 hb2; clear hb2)
    | (go_at_call 10; refine (k10 _ _ _ r1).mono ?_; rintro e W4 ⟨⟨p4, q4, rfl, r4, -⟩, hb2⟩; replace r1 := r1.below hb2; replace hb1 := below_then hb1 hb2; clear hb2)
    | (go_at_call 11; refine (k11 _ (w0.below hb1)).mono ?_; rintro e W5 ⟨⟨p5, q5, rfl, r5, -⟩, hb2⟩; replace r1 := r1.below hb2; replace r4 := r4.below hb2; replace hb1 := below_then hb1 hb2; clear hb2)
    | (go_at_call 9; refine (same_ints _ _ _ L _ _ _ _ r4 r5).mono ?_; rintro e W6 ⟨rfl, hq⟩; replace r1 := r1.below (below_drew (Below.refl _ _) hq); replace hb1 := below_drew hb1 hq; clear hq r4 r5)
    | (go_at_call 12; refine (k12 _ _ _ r1).mono ?_; rintro e W7 ⟨rfl, hb2⟩; replace r1 := r1.below hb2; replace hb1 := below_then hb1 hb2; clear hb2)
    | (go_at_call 13; refine (k13 _ (w0.below hb1)).mono ?_; rintro e W8 ⟨rfl, hb2⟩; replace r1 := r1.below hb2; replace hb1 := below_then hb1 hb2; clear hb2)
    | (go_at_call 14; refine (same_call _ _ _ z0 _ _ _ _ r1 (w0.below hb1)).mono ?_; rintro e W9 ⟨rfl, hq⟩; replace hb1 := below_drew hb1 hq; clear hq))
  go_ret
  exact ⟨rfl, hb1⟩

theorem contract (H : Type) (enc : TypeId × Value → H) (W : World) (base : Nat) (args : Array Value) (ds gs : List (DataW H)) (before : List MemPlace)
    (hval0 : ∀ (j : Nat) t v, Try.f3.params[j]? = some t → args[j]? = some v → Value.okWide Try.prog W .any base t v)
    (hW : DataW.Whole enc Try.prog Try.f3.params.toList Rows.pickTellsSpec.vars false W args.toList ds gs before) :
    Calls Try.prog 3 args W fun e W' => ∃ v, e = .returned v ∧ Rows.pickTellsSpec.post enc Try.prog Try.f3 false true false false W args v W' := by
  have hval : ∀ (j : Nat) t v, Try.f3.params[j]? = some t → args[j]? = some v → Value.okWide Try.prog W .any base t v := hval0
  have hW' := hW
  obtain ⟨p, q, hA0, hV, rfl, hfz, hnd⟩ := hW
  have hA : DataW.TrodAll enc Try.prog W 0 (fun _ => true) true Try.f3.params.toList args.toList ds p := hA0
  rw [Try.params3] at hA hval
  obtain ⟨v0, vs0, d0, ds0, p0, q0, hargs, rfl, rfl, h0, r0⟩ := trodAll_cons hA
  obtain ⟨v1, vs1, d1, ds1, p1, q1, rfl, rfl, rfl, h1, r1⟩ := trodAll_cons r0
  obtain ⟨v2, vs2, d2, ds2, p2, q2, rfl, rfl, rfl, h2, r2⟩ := trodAll_cons r1
  obtain ⟨rfl, rfl, rfl⟩ := trodAll_nil r2
  obtain rfl : args = #[v0, v1, v2] := by cases args; simp_all
  obtain ⟨rfl, rfl⟩ := trodVars_none hV
  obtain ⟨a0, n0, c0, rfl⟩ := okWide_slice Try.underlying22 (hval 0 22 v0 rfl rfl)
  have k0 := h0
  have lt0 : ∀ x ∈ p0, x.block < W.heap.size := by obtain ⟨m, hm⟩ := k0; exact DataW.trod_lt m _ _ _ hm
  obtain ⟨z0, w0, e0, l0, s0⟩ : ∃ zs, Reads .i64 W a0 n0 zs ∧ (a0 = none → c0 = 0) ∧ n0 ≤ c0 ∧ (n0 = 0 ∨ ∃ el sp, d0 = .slice el sp ∧ n0 ≤ el.length + sp.length) := by
    obtain ⟨fuel, hf⟩ := h0
    rcases open_ints Try.underlying22 Try.underlying2 (by kernel_rfl) hf with ⟨hcs, hd⟩ | ⟨x, l, c, zs, hcs, _, hl, hm, hz, hd, hcell, hwz⟩
    · simp [Value.cells] at hcs
      obtain ⟨rfl, rfl, rfl⟩ := hcs
      exact ⟨[], Reads.nil _ _, fun _ => rfl, Nat.le_refl _, .inl rfl⟩
    · simp [Value.cells] at hcs
      obtain ⟨rfl, rfl, rfl⟩ := hcs
      exact ⟨_, Reads.of_open hl hm (by simpa using hz) hcell hwz, (fun h => by cases h), hl, .inr ⟨_, _, congrArg Prod.fst hd, open_length (by simpa using hz) hl⟩⟩
  obtain ⟨a1, rfl, rfl, rfl, w1⟩ := open_int Try.underlying3 (hval 1 3 v1 rfl rfl) h1
  obtain ⟨a2, rfl, rfl, rfl, w2⟩ := open_int Try.underlying3 (hval 2 3 v2 rfl rfl) h2
  clear hA0 hval0
  refine (walk a0 n0 c0 z0 a1 a2 W w0 e0 l0 w1 w2).mono fun e W' ⟨he, bel⟩ => ?_
  subst he
  exact ⟨_, rfl, _, _, _, [], _, [], hW', trodAll_mk1 (shut_bool Try.underlying4 _), (trodAll_cons_mk (Below.trod laidOut (by kernel_rfl) (of_decide_eq_true (by kernel_rfl)) k0 bel lt0) (trodAll_cons_mk (shut_int Try.underlying3 w1) (trodAll_cons_mk (shut_int Try.underlying3 w2) trodAll_mk0))), rfl, bel.frame _, fun h => by cases h⟩

set_option maxRecDepth 100000 in
theorem lifted (os : Os) (started : os.Started) (H : Type) (enc : TypeId × Value → H) :
    ReturnsInHanded {} Try.checked os 3 .any (Rows.pickTellsSpec.pre6 enc Try.prog Try.f3 Rows.pickTellsRow.domain false) (Rows.pickTellsSpec.post enc Try.prog Try.f3 false true false false) := by
  refine returnsInHanded_of_change (C := Try.checked) own started (by kernel_rfl) Try.func3
    (ChangeSpec.witness6 (enc := enc) (C := Try.checked) false ⟨#[], #[.slice none 0 0, .int .i64 0, .int .i64 0], []⟩ 8 (by kernel_rfl) (by kernel_rfl) (by kernel_rfl) (by kernel_rfl)) ?_
  intro W base args ds gs before hval hW _ _
  exact contract H enc W base args ds gs before hval hW

theorem over : Rows.pickTellsRow.holds Try.pinned (OpenSpec.ofChange Rows.pickTellsSpec) :=
  OpenClaim.holds_of_wide 3 Try.f3 rfl rfl rfl rfl rfl rfl rfl ⟨rfl, rfl, rfl, rfl, rfl⟩ rfl rfl rfl rfl rfl (by kernel_rfl) Try.func3 (by kernel_rfl)
    (of_decide_eq_true (by kernel_rfl)) (by unfold Func.isWrapper; first | (rw [if_pos (by decide +kernel)]; kernel_rfl) | (rw [if_neg (by decide +kernel)]; exact ⟨rfl, rfl⟩))
    (fun os started H enc _ => lifted os started H enc)

theorem proved : Rows.PickTellsSaid :=
  over
#print axioms proved
end Go.Proofs.Ytefkbfmckoidaaa.pickTells
