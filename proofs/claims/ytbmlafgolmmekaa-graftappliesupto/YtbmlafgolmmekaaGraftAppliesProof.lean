/- For every two matrices of weights, every rank and shift and every row of numbers, of together at most 1048576 values, what the program's Apply makes of the row, and its error, are the document's. -/
import Derived.Test.YtbmlafgolmmekaaRows
import Derived.Test.YtbmlafgolmmekaaSat
import Derived.Test.YtbmlafgolmmekaaSatRef
import Derived.Test.YtbmlafgolmmekaaAdds
import Derived.Test.YtbmlafgolmmekaaView
import Derived.Test.YtbmlafgolmmekaaOwn
import Derived.Test.YtbmlafgolmmekaaHeld
import Derived.Test.YtbmlafgolmmekaaSteps
import Derived.Test.YtbmlafgolmmekaaDots
import Derived.Test.YtbmlafgolmmekaaDotsRef
import Derived.Test.YtbmlafgolmmekaaFits
import Derived.Test.YtbmlafgolmmekaaMats
import Derived.Test.YtbmlafgolmmekaaMatsRef
import Derived.Test.YtbmlafgolmmekaaApply
import Derived.Test.YtbmlafgolmmekaaApplyRef
import Derived.WalkKit
import Derived.ProofKit
import Derived.OpenShut
import Derived.ChangeOld
import Derived.Below
import Derived.WalkLawsBesides
import Derived.ChangeMaps5
import Derived.JoinedCond
namespace Go.Proofs.Ytbmlafgolmmekaa.graftApplies
open Go.ChangeShapes Go.WideShapes Go.ChangeAt Go.RowKit
set_option linter.unusedVariables false
set_option linter.unusedSimpArgs false

theorem own : ownKnob Try.prog.godebug = none := by kernel_rfl
theorem laidOut : laidOutB Try.prog = true := by kernel_rfl



theorem walk (a0 : Option Addr) (n0 c0 : Nat) (z0 : List Int) (a1 : Option Addr) (n1 c1 : Nat) (z1 : List Int) (a2 : Int) (a3 : Int) (a4 : Option Addr) (n4 c4 : Nat) (z4 : List Int) (w : World) (w0 : Reads .i8 w a0 n0 z0) (e0 : a0 = none → c0 = 0) (l0 : n0 ≤ c0) (w1 : Reads .i8 w a1 n1 z1) (e1 : a1 = none → c1 = 0) (l1 : n1 ≤ c1) (w2 : (Lit.int .i64 a2).wf = true) (w3 : (Lit.int .i64 a3).wf = true) (w4 : Reads .i64 w a4 n4 z4) (e4 : a4 = none → c4 = 0) (l4 : n4 ≤ c4) (b0 : n0 ≤ 1048576) (b1 : n1 ≤ 1048576) (b4 : n4 ≤ 1048576) :
    Calls Try.prog 6 #[.slice a0 n0 c0, .slice a1 n1 c1, .int .i64 a2, .int .i64 a3, .slice a4 n4 c4] w fun e w' => e = .returned (.bool true) ∧ Below w.heap.size w w' := by
  obtain ⟨i0, hi, hz0, hz1, hz2⟩ := info_parts info2
  obtain ⟨j0, hj, hy0, hy1, hy2⟩ := info_parts info62
  have k1 := fun W p q p' q' r s (h0 : Reads .i8 W p n0 z0) (h1 : n0 ≤ q) (h2 : Reads .i8 W p' n1 z1) (h3 : n1 ≤ q') (h4 : Reads .i64 W r n4 z4) => apply_call p n0 q z0 p' n1 q' z1 a2 a3 r n4 s z4 W h0 h1 h2 h3 h4 w2 w3 (by omega) (by omega)
  have k2 := fun W (h0 : Reads .i8 W a0 n0 z0) (h2 : Reads .i8 W a1 n1 z1) (h4 : Reads .i64 W a4 n4 z4) => refApply_call a0 n0 c0 z0 a1 n1 c1 z1 a2 a3 a4 n4 c4 z4 W h0 l0 h2 l1 h4 w2 w3 (by omega) (by omega)
  obtain ⟨L, eL⟩ : ∃ L, applR z0 z1 a2 a3 z4 = L := ⟨_, rfl⟩
  obtain ⟨D, eD⟩ : ∃ D, applE z0 z1 a2 z4 = D := ⟨_, rfl⟩
  simp only [eL, eD] at k1 k2
  clear eL eD
  have hb := Below.refl w.heap.size w
  go_enter Try.func6, Try.ntmps6
  go_wp2_with (first
    | (at_builtin; refine wpList_copy rfl (.tmp 16) (.tmp 17) 33 rfl w.heap.size 62 j0 (.int .i8 0) 1 Try.underlying33 hj hy0 hy1 hy2 rfl _ 0 [] rfl (World.ownsRow_lit _ #[] 0 hb.size (by decide) rfl) .i8 a0 n0 c0 z0 rfl (w0.below (below_new hb _)) e0 (by unfold maxLen; omega) (by omega) (below_new hb _).size ?_; intro v1 W1 ho1 hg1; obtain ⟨p1, q1, rfl, r1, hb1, -, lq1⟩ := copied hb _ ho1 hg1 w0; clear ho1 hg1)
    | (at_builtin; refine wpList_copy rfl (.tmp 19) (.tmp 20) 33 rfl w.heap.size 62 j0 (.int .i8 0) 1 Try.underlying33 hj hy0 hy1 hy2 rfl _ 0 [] rfl (World.ownsRow_lit _ #[] 0 hb1.size (by decide) rfl) .i8 a1 n1 c1 z1 rfl (w1.below (below_new hb1 _)) e1 (by unfold maxLen; omega) (by omega) (below_new hb1 _).size ?_; intro v2 W2 ho2 hg2; obtain ⟨p2, q2, rfl, r2, hb2, -, lq2⟩ := copied hb1 _ ho2 hg2 w1; replace r1 := r1.below (copied_from hb1 _ ho2 hg2); clear ho2 hg2)
    | (at_builtin; refine wpList_copy rfl (.tmp 24) (.tmp 25) 42 rfl w.heap.size 2 i0 (.int .i64 0) 8 Try.underlying42 hi hz0 hz1 hz2 rfl _ 0 [] rfl (World.ownsRow_lit _ #[] 0 hb2.size (by decide) rfl) .i64 a4 n4 c4 z4 rfl (w4.below (below_new hb2 _)) e4 (by unfold maxLen; omega) (by omega) (below_new hb2 _).size ?_; intro v3 W3 ho3 hg3; obtain ⟨p3, q3, rfl, r3, hb3, -, -⟩ := copied hb2 _ ho3 hg3 w4; replace r1 := r1.below (copied_from hb2 _ ho3 hg3); replace r2 := r2.below (copied_from hb2 _ ho3 hg3); clear ho3 hg3)
    | (go_at_call 22; refine (k1 _ _ _ _ _ _ _ r1 lq1 r2 lq2 r3).mono ?_; rintro e W4 ⟨p4, m4, q4, rfl, r4, hb4⟩; replace hb4 := below_then hb3 hb4; clear r1 r2 r3)
    | (go_at_call 23; refine (k2 _ (w0.below hb4) (w1.below hb4) (w4.below hb4)).mono ?_; rintro e W5 ⟨p5, m5, q5, rfl, r5, hb5⟩; replace r4 := r4.below hb5; replace hb5 := below_then hb4 hb5)
    | (go_at_call 24; refine (same64_call _ _ _ L _ _ _ _ r4 r5).mono ?_; rintro e W6 ⟨rfl, hb6⟩; replace hb6 := below_drew hb5 hb6; clear r4 r5))
  go_ret
  exact ⟨rfl, by assumption⟩

theorem contract (H : Type) (enc : TypeId × Value → H) (W : World) (base : Nat) (args : Array Value) (ds gs : List (DataW H)) (before : List MemPlace)
    (hval0 : ∀ (j : Nat) t v, Try.f6.params[j]? = some t → args[j]? = some v → Value.okWide Try.prog W .any base t v)
    (hW : DataW.Whole enc Try.prog Try.f6.params.toList Rows.graftAppliesSpec.vars false W args.toList ds gs before)
    (hk : Rows.uptoSmall H (ds ++ gs) = true) :
    Calls Try.prog 6 args W fun e W' => ∃ v, e = .returned v ∧ Rows.graftAppliesSpec.post enc Try.prog Try.f6 false true false false W args v W' := by
  have hval : ∀ (j : Nat) t v, Try.f6.params[j]? = some t → args[j]? = some v → Value.okWide Try.prog W .any base t v := hval0
  have hW' := hW
  obtain ⟨p, q, hA0, hV, rfl, hfz, hnd⟩ := hW
  have hA : DataW.TrodAll enc Try.prog W 0 (fun _ => true) true Try.f6.params.toList args.toList ds p := hA0
  rw [Try.params6] at hA hval
  obtain ⟨v0, vs0, d0, ds0, p0, q0, hargs, rfl, rfl, h0, r0⟩ := trodAll_cons hA
  obtain ⟨v1, vs1, d1, ds1, p1, q1, rfl, rfl, rfl, h1, r1⟩ := trodAll_cons r0
  obtain ⟨v2, vs2, d2, ds2, p2, q2, rfl, rfl, rfl, h2, r2⟩ := trodAll_cons r1
  obtain ⟨v3, vs3, d3, ds3, p3, q3, rfl, rfl, rfl, h3, r3⟩ := trodAll_cons r2
  obtain ⟨v4, vs4, d4, ds4, p4, q4, rfl, rfl, rfl, h4, r4⟩ := trodAll_cons r3
  obtain ⟨rfl, rfl, rfl⟩ := trodAll_nil r4
  obtain rfl : args = #[v0, v1, v2, v3, v4] := by cases args; simp_all
  obtain ⟨rfl, rfl⟩ := trodVars_none hV
  obtain ⟨a0, n0, c0, rfl⟩ := okWide_slice Try.underlying33 (hval 0 33 v0 rfl rfl)
  have k0 := h0
  have lt0 : ∀ x ∈ p0, x.block < W.heap.size := by obtain ⟨m, hm⟩ := k0; exact DataW.trod_lt m _ _ _ hm
  obtain ⟨z0, w0, e0, l0, s0⟩ : ∃ zs, Reads .i8 W a0 n0 zs ∧ (a0 = none → c0 = 0) ∧ n0 ≤ c0 ∧ (n0 = 0 ∨ ∃ el sp, d0 = .slice el sp ∧ n0 ≤ el.length + sp.length) := by
    obtain ⟨fuel, hf⟩ := h0
    rcases open_ints Try.underlying33 Try.underlying62 (by kernel_rfl) hf with ⟨hcs, hd⟩ | ⟨x, l, c, zs, hcs, _, hl, hm, hz, hd, hcell, hwz⟩
    · simp [Value.cells] at hcs
      obtain ⟨rfl, rfl, rfl⟩ := hcs
      exact ⟨[], Reads.nil _ _, fun _ => rfl, Nat.le_refl _, .inl rfl⟩
    · simp [Value.cells] at hcs
      obtain ⟨rfl, rfl, rfl⟩ := hcs
      exact ⟨_, Reads.of_open hl hm (by simpa using hz) hcell hwz, (fun h => by cases h), hl, .inr ⟨_, _, congrArg Prod.fst hd, open_length (by simpa using hz) hl⟩⟩
  obtain ⟨a1, n1, c1, rfl⟩ := okWide_slice Try.underlying33 (hval 1 33 v1 rfl rfl)
  have k1 := h1
  have lt1 : ∀ x ∈ p1, x.block < W.heap.size := by obtain ⟨m, hm⟩ := k1; exact DataW.trod_lt m _ _ _ hm
  obtain ⟨z1, w1, e1, l1, s1⟩ : ∃ zs, Reads .i8 W a1 n1 zs ∧ (a1 = none → c1 = 0) ∧ n1 ≤ c1 ∧ (n1 = 0 ∨ ∃ el sp, d1 = .slice el sp ∧ n1 ≤ el.length + sp.length) := by
    obtain ⟨fuel, hf⟩ := h1
    rcases open_ints Try.underlying33 Try.underlying62 (by kernel_rfl) hf with ⟨hcs, hd⟩ | ⟨x, l, c, zs, hcs, _, hl, hm, hz, hd, hcell, hwz⟩
    · simp [Value.cells] at hcs
      obtain ⟨rfl, rfl, rfl⟩ := hcs
      exact ⟨[], Reads.nil _ _, fun _ => rfl, Nat.le_refl _, .inl rfl⟩
    · simp [Value.cells] at hcs
      obtain ⟨rfl, rfl, rfl⟩ := hcs
      exact ⟨_, Reads.of_open hl hm (by simpa using hz) hcell hwz, (fun h => by cases h), hl, .inr ⟨_, _, congrArg Prod.fst hd, open_length (by simpa using hz) hl⟩⟩
  obtain ⟨a2, rfl, rfl, rfl, w2⟩ := open_int Try.underlying3 (hval 2 3 v2 rfl rfl) h2
  obtain ⟨a3, rfl, rfl, rfl, w3⟩ := open_int Try.underlying3 (hval 3 3 v3 rfl rfl) h3
  obtain ⟨a4, n4, c4, rfl⟩ := okWide_slice Try.underlying42 (hval 4 42 v4 rfl rfl)
  have k4 := h4
  have lt4 : ∀ x ∈ p4, x.block < W.heap.size := by obtain ⟨m, hm⟩ := k4; exact DataW.trod_lt m _ _ _ hm
  obtain ⟨z4, w4, e4, l4, s4⟩ : ∃ zs, Reads .i64 W a4 n4 zs ∧ (a4 = none → c4 = 0) ∧ n4 ≤ c4 ∧ (n4 = 0 ∨ ∃ el sp, d4 = .slice el sp ∧ n4 ≤ el.length + sp.length) := by
    obtain ⟨fuel, hf⟩ := h4
    rcases open_ints Try.underlying42 Try.underlying2 (by kernel_rfl) hf with ⟨hcs, hd⟩ | ⟨x, l, c, zs, hcs, _, hl, hm, hz, hd, hcell, hwz⟩
    · simp [Value.cells] at hcs
      obtain ⟨rfl, rfl, rfl⟩ := hcs
      exact ⟨[], Reads.nil _ _, fun _ => rfl, Nat.le_refl _, .inl rfl⟩
    · simp [Value.cells] at hcs
      obtain ⟨rfl, rfl, rfl⟩ := hcs
      exact ⟨_, Reads.of_open hl hm (by simpa using hz) hcell hwz, (fun h => by cases h), hl, .inr ⟨_, _, congrArg Prod.fst hd, open_length (by simpa using hz) hl⟩⟩
  have b0 : n0 ≤ 1048576 := by
    rcases s0 with rfl | ⟨el, sp, rfl, hle⟩
    · decide
    · exact upto_slice hk (j := 0) rfl hle
  have b1 : n1 ≤ 1048576 := by
    rcases s1 with rfl | ⟨el, sp, rfl, hle⟩
    · decide
    · exact upto_slice hk (j := 1) rfl hle
  have b4 : n4 ≤ 1048576 := by
    rcases s4 with rfl | ⟨el, sp, rfl, hle⟩
    · decide
    · exact upto_slice hk (j := 4) rfl hle
  clear hA0 hval0
  refine (walk a0 n0 c0 z0 a1 n1 c1 z1 a2 a3 a4 n4 c4 z4 W w0 e0 l0 w1 e1 l1 w2 w3 w4 e4 l4 b0 b1 b4).mono fun e W' ⟨he, bel⟩ => ?_
  subst he
  exact ⟨_, rfl, _, _, _, [], _, [], hW', trodAll_mk1 (shut_bool Try.underlying4 _), (trodAll_cons_mk (Below.trod laidOut (by kernel_rfl) (of_decide_eq_true (by kernel_rfl)) k0 bel lt0) (trodAll_cons_mk (Below.trod laidOut (by kernel_rfl) (of_decide_eq_true (by kernel_rfl)) k1 bel lt1) (trodAll_cons_mk (shut_int Try.underlying3 w2) (trodAll_cons_mk (shut_int Try.underlying3 w3) (trodAll_cons_mk (Below.trod laidOut (by kernel_rfl) (of_decide_eq_true (by kernel_rfl)) k4 bel lt4) trodAll_mk0))))), rfl, bel.frame _, fun h => by cases h⟩

set_option maxRecDepth 100000 in
theorem lifted (os : Os) (started : os.Started) (H : Type) (enc : TypeId × Value → H) (F : Stop.Interp) :
    ReturnsInHanded {} Try.checked os 6 .any ((Rows.OpenSpec.upto Rows.graftAppliesSpec).pre6 enc Try.prog Try.f6 Rows.graftAppliesUptoRow.domain false) (((Rows.OpenSpec.upto Rows.graftAppliesSpec).at F).post enc Try.prog Try.f6 false true false false) := by
  refine returnsInHanded_of_cond (C := Try.checked) (s := Rows.OpenSpec.upto Rows.graftAppliesSpec) (k := Rows.uptoSmall) rfl own started (by kernel_rfl) Try.func6
    (OpenSpec.witness (enc := enc) (C := Try.checked) (s := Rows.OpenSpec.upto Rows.graftAppliesSpec) (k := Rows.uptoSmall) rfl false ⟨#[], #[.slice none 0 0, .slice none 0 0, .int .i64 0, .int .i64 0, .slice none 0 0], []⟩ 8 (by kernel_rfl) (by kernel_rfl) (by kernel_rfl)
      (x := ([.nil, .nil, .lit (.int .i64 0), .lit (.int .i64 0), .nil], [], [])) (by kernel_rfl) rfl (by kernel_rfl)) ?_
  intro W base args ds gs before hval hW _ hk _
  exact contract H enc W base args ds gs before hval hW hk

theorem over : Rows.graftAppliesUptoRow.holds Try.pinned (Rows.OpenSpec.upto Rows.graftAppliesSpec) :=
  OpenClaim.holds_of_cond 6 Try.f6 rfl rfl rfl rfl rfl rfl rfl ⟨rfl, rfl, rfl, rfl, rfl⟩ rfl rfl rfl rfl rfl (by kernel_rfl) Try.func6 (by kernel_rfl)
    (of_decide_eq_true (by kernel_rfl)) (by unfold Func.isWrapper; first | (rw [if_pos (by decide +kernel)]; kernel_rfl) | (rw [if_neg (by decide +kernel)]; exact ⟨rfl, rfl⟩))
    (fun os started H enc _ F => lifted os started H enc F)

theorem proved : Rows.GraftAppliesUptoSaid :=
  over
#print axioms proved
end Go.Proofs.Ytbmlafgolmmekaa.graftApplies
