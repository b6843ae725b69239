/- For every two matrices of weights, every number of rows within and every row of numbers, of together at most 1048576 values, what the program's One makes of the row, and its error, are the document's. -/
import Derived.Test.YtlpmndlefbghoaaRows
import Derived.Test.YtlpmndlefbghoaaView
import Derived.Test.YtlpmndlefbghoaaOwn
import Derived.Test.YtlpmndlefbghoaaSteps
import Derived.Test.YtlpmndlefbghoaaSame
import Derived.Test.YtlpmndlefbghoaaWhere
import Derived.Test.YtlpmndlefbghoaaWorks
import Derived.Test.YtlpmndlefbghoaaXpNeed
import Derived.Test.YtlpmndlefbghoaaXpPlain
import Derived.Test.YtlpmndlefbghoaaXpMat
import Derived.Test.YtlpmndlefbghoaaXpOne
import Derived.Test.YtlpmndlefbghoaaXpFace
import Derived.Test.YtlpmndlefbghoaaXpRefOne
import Derived.WalkKit
import Derived.ProofKit
import Derived.OpenShut
import Derived.ChangeOld
import Derived.Below
import Derived.WalkLawsBesides
import Derived.ChangeMaps5
import Derived.JoinedCond
namespace Go.Proofs.Ytlpmndlefbghoaa.expertOnes
open Go.ChangeShapes Go.WideShapes Go.ChangeAt Go.RowKit
set_option linter.unusedVariables false
set_option linter.unusedSimpArgs false

theorem own : ownKnob Try.prog.godebug = none := by kernel_rfl
theorem laidOut : laidOutB Try.prog = true := by kernel_rfl

theorem info53 : (Try.prog.info? 53).map (fun i => (i.zero, i.size, i.bytes)) = some (some (.int .i8 0), 1, 1) := by kernel_rfl

set_option maxHeartbeats 4000000 in
theorem walk (a0 : Option Addr) (n0 c0 : Nat) (z0 : List Int) (a1 : Option Addr) (n1 c1 : Nat) (z1 : List Int) (a2 : Int) (a3 : Option Addr) (n3 c3 : Nat) (z3 : List Int) (w : World) (w0 : Reads .i8 w a0 n0 z0) (e0 : a0 = none → c0 = 0) (l0 : n0 ≤ c0) (w1 : Reads .i8 w a1 n1 z1) (e1 : a1 = none → c1 = 0) (l1 : n1 ≤ c1) (w2 : (Lit.int .i64 a2).wf = true) (w3 : Reads .i64 w a3 n3 z3) (e3 : a3 = none → c3 = 0) (l3 : n3 ≤ c3) (b0 : n0 ≤ 1048576) (b1 : n1 ≤ 1048576) (b3 : n3 ≤ 1048576) :
    Calls Try.prog 4 #[.slice a0 n0 c0, .slice a1 n1 c1, .int .i64 a2, .slice a3 n3 c3] w fun e w' => e = .returned (.bool true) ∧ Below w.heap.size w w' := by
  obtain ⟨i0, hi, hz0, hz1, hz2⟩ := info_parts info2
  obtain ⟨j0, hj, hy0, hy1, hy2⟩ := info_parts info53
  have hm0 := w0.max
  have hm1 := w1.max
  have hm3 := w3.max
  have k16 := fun (W : World) p0 q0 p1 q1 p3 q3 (h0 : Reads .i8 W p0 n0 z0) (l0 : n0 ≤ q0) (h1 : Reads .i8 W p1 n1 z1) (l1 : n1 ≤ q1) (h3 : Reads .i64 W p3 n3 z3) => One_call p0 n0 q0 z0 p1 n1 q1 z1 a2 p3 n3 q3 z3 W h0 l0 h1 l1 h3 w2 (by omega) (by omega)
  have k17 := fun (W : World) (h0 : Reads .i8 W a0 n0 z0) (h1 : Reads .i8 W a1 n1 z1) (h3 : Reads .i64 W a3 n3 z3) => refOne_call a0 n0 c0 z0 a1 n1 c1 z1 a2 a3 n3 c3 z3 W h0 l0 h1 l1 h3 w2 (by omega) (by omega)
  obtain ⟨D, eD⟩ : ∃ D, (if oneB z0 z1 a2 z3 then (0 : Int) else 21) = D := ⟨_, rfl⟩
  obtain ⟨L, eL⟩ : ∃ L, (if oneB z0 z1 a2 z3 then oneL z0 z1 z3 else []) = L := ⟨_, rfl⟩
  rw [eD, eL] at k16 k17
  clear eD eL
  go_enter Try.func4, Try.ntmps4
  go_wp2_with (first
    | (at_builtin; refine wpList_copy rfl (.tmp 14) (.tmp 15) 22 rfl w.heap.size 53 j0 (.int .i8 0) 1 Try.underlying22 hj hy0 hy1 hy2 rfl _ 0 [] rfl (World.ownsRow_lit _ #[] 0 (Nat.le_refl _) (by decide) rfl) .i8 a0 n0 c0 z0 rfl (w0.below (below_new (Below.refl _ _) _)) e0 (by unfold maxLen; omega) (by omega) (below_new (Below.refl _ _) _).size ?_; intro v1 W1 ho1 hg1; obtain ⟨p1, q1, rfl, r1, hb1, -, cp1⟩ := copied (Below.refl w.heap.size w) _ ho1 hg1 w0; clear ho1 hg1)
    | (at_builtin; refine wpList_copy rfl (.tmp 17) (.tmp 18) 22 rfl W1.heap.size 53 j0 (.int .i8 0) 1 Try.underlying22 hj hy0 hy1 hy2 rfl _ 0 [] rfl (World.ownsRow_lit _ #[] 0 (Nat.le_refl _) (by decide) rfl) .i8 a1 n1 c1 z1 rfl ((w1.below hb1).below (below_new (Below.refl _ _) _)) e1 (by unfold maxLen; omega) (by omega) (below_new (Below.refl _ _) _).size ?_; intro v2 W2 ho2 hg2; obtain ⟨p2, q2, rfl, r2, d2, -, cp2⟩ := copied (Below.refl W1.heap.size W1) _ ho2 hg2 w1; have hb2 := below_then hb1 d2; replace r1 := r1.below d2; clear ho2 hg2 d2 hb1)
    | (at_builtin; refine wpList_copy rfl (.tmp 21) (.tmp 22) 24 rfl W2.heap.size 2 i0 (.int .i64 0) 8 Try.underlying24 hi hz0 hz1 hz2 rfl _ 0 [] rfl (World.ownsRow_lit _ #[] 0 (Nat.le_refl _) (by decide) rfl) .i64 a3 n3 c3 z3 rfl ((w3.below hb2).below (below_new (Below.refl _ _) _)) e3 (by unfold maxLen; omega) (by omega) (below_new (Below.refl _ _) _).size ?_; intro v3 W3 ho3 hg3; obtain ⟨p3, q3, rfl, r3, d3, -, cp3⟩ := copied (Below.refl W2.heap.size W2) _ ho3 hg3 w3; have hb3 := below_then hb2 d3; replace r1 := r1.below d3; replace r2 := r2.below d3; clear ho3 hg3 d3 hb2)
    | (go_at_call 16; refine (k16 W3 _ _ _ _ _ _ r1 cp1 r2 cp2 r3).mono ?_; rintro e W4 ⟨⟨p4, m4, q4, rfl, r4⟩, d4⟩; have hb4 := below_then hb3 d4; clear d4 hb3 r1 r2 r3 k16)
    | (go_at_call 17; refine (k17 W4 (w0.below hb4) (w1.below hb4) (w3.below hb4)).mono ?_; rintro e W5 ⟨⟨p5, m5, q5, rfl, r5⟩, d5⟩; replace r4 := r4.below d5; have hb5 := below_then hb4 d5; clear d5 hb4 k17)
    | (go_at_call 14; refine (same_call _ _ _ L _ _ _ _ r4 r5).mono ?_; rintro e W6 ⟨rfl, hq⟩; have hb6 := below_drew hb5 hq; clear hq r4 r5 hb5))
  go_ret
  exact ⟨by simp, hb6⟩

theorem contract (H : Type) (enc : TypeId × Value → H) (W : World) (base : Nat) (args : Array Value) (ds gs : List (DataW H)) (before : List MemPlace)
    (hval0 : ∀ (j : Nat) t v, Try.f4.params[j]? = some t → args[j]? = some v → Value.okWide Try.prog W .any base t v)
    (hW : DataW.Whole enc Try.prog Try.f4.params.toList Rows.expertOnesSpec.vars false W args.toList ds gs before)
    (hk : Rows.uptoSmall H (ds ++ gs) = true) :
    Calls Try.prog 4 args W fun e W' => ∃ v, e = .returned v ∧ Rows.expertOnesSpec.post enc Try.prog Try.f4 false true false false W args v W' := by
  have hval : ∀ (j : Nat) t v, Try.f4.params[j]? = some t → args[j]? = some v → Value.okWide Try.prog W .any base t v := hval0
  have hW' := hW
  obtain ⟨p, q, hA0, hV, rfl, hfz, hnd⟩ := hW
  have hA : DataW.TrodAll enc Try.prog W 0 (fun _ => true) true Try.f4.params.toList args.toList ds p := hA0
  rw [Try.params4] at hA hval
  obtain ⟨v0, vs0, d0, ds0, p0, q0, hargs, rfl, rfl, h0, r0⟩ := trodAll_cons hA
  obtain ⟨v1, vs1, d1, ds1, p1, q1, rfl, rfl, rfl, h1, r1⟩ := trodAll_cons r0
  obtain ⟨v2, vs2, d2, ds2, p2, q2, rfl, rfl, rfl, h2, r2⟩ := trodAll_cons r1
  obtain ⟨v3, vs3, d3, ds3, p3, q3, rfl, rfl, rfl, h3, r3⟩ := trodAll_cons r2
  obtain ⟨rfl, rfl, rfl⟩ := trodAll_nil r3
  obtain rfl : args = #[v0, v1, v2, v3] := by cases args; simp_all
  obtain ⟨rfl, rfl⟩ := trodVars_none hV
  obtain ⟨a0, n0, c0, rfl⟩ := okWide_slice Try.underlying22 (hval 0 22 v0 rfl rfl)
  have k0 := h0
  have lt0 : ∀ x ∈ p0, x.block < W.heap.size := by obtain ⟨m, hm⟩ := k0; exact DataW.trod_lt m _ _ _ hm
  obtain ⟨z0, w0, e0, l0, s0⟩ : ∃ zs, Reads .i8 W a0 n0 zs ∧ (a0 = none → c0 = 0) ∧ n0 ≤ c0 ∧ (n0 = 0 ∨ ∃ el sp, d0 = .slice el sp ∧ n0 ≤ el.length + sp.length) := by
    obtain ⟨fuel, hf⟩ := h0
    rcases open_ints Try.underlying22 Try.underlying53 (by kernel_rfl) hf with ⟨hcs, hd⟩ | ⟨x, l, c, zs, hcs, _, hl, hm, hz, hd, hcell, hwz⟩
    · simp [Value.cells] at hcs
      obtain ⟨rfl, rfl, rfl⟩ := hcs
      exact ⟨[], Reads.nil _ _, fun _ => rfl, Nat.le_refl _, .inl rfl⟩
    · simp [Value.cells] at hcs
      obtain ⟨rfl, rfl, rfl⟩ := hcs
      exact ⟨_, Reads.of_open hl hm (by simpa using hz) hcell hwz, (fun h => by cases h), hl, .inr ⟨_, _, congrArg Prod.fst hd, open_length (by simpa using hz) hl⟩⟩
  obtain ⟨a1, n1, c1, rfl⟩ := okWide_slice Try.underlying22 (hval 1 22 v1 rfl rfl)
  have k1 := h1
  have lt1 : ∀ x ∈ p1, x.block < W.heap.size := by obtain ⟨m, hm⟩ := k1; exact DataW.trod_lt m _ _ _ hm
  obtain ⟨z1, w1, e1, l1, s1⟩ : ∃ zs, Reads .i8 W a1 n1 zs ∧ (a1 = none → c1 = 0) ∧ n1 ≤ c1 ∧ (n1 = 0 ∨ ∃ el sp, d1 = .slice el sp ∧ n1 ≤ el.length + sp.length) := by
    obtain ⟨fuel, hf⟩ := h1
    rcases open_ints Try.underlying22 Try.underlying53 (by kernel_rfl) hf with ⟨hcs, hd⟩ | ⟨x, l, c, zs, hcs, _, hl, hm, hz, hd, hcell, hwz⟩
    · simp [Value.cells] at hcs
      obtain ⟨rfl, rfl, rfl⟩ := hcs
      exact ⟨[], Reads.nil _ _, fun _ => rfl, Nat.le_refl _, .inl rfl⟩
    · simp [Value.cells] at hcs
      obtain ⟨rfl, rfl, rfl⟩ := hcs
      exact ⟨_, Reads.of_open hl hm (by simpa using hz) hcell hwz, (fun h => by cases h), hl, .inr ⟨_, _, congrArg Prod.fst hd, open_length (by simpa using hz) hl⟩⟩
  obtain ⟨a2, rfl, rfl, rfl, w2⟩ := open_int Try.underlying3 (hval 2 3 v2 rfl rfl) h2
  obtain ⟨a3, n3, c3, rfl⟩ := okWide_slice Try.underlying24 (hval 3 24 v3 rfl rfl)
  have k3 := h3
  have lt3 : ∀ x ∈ p3, x.block < W.heap.size := by obtain ⟨m, hm⟩ := k3; exact DataW.trod_lt m _ _ _ hm
  obtain ⟨z3, w3, e3, l3, s3⟩ : ∃ zs, Reads .i64 W a3 n3 zs ∧ (a3 = none → c3 = 0) ∧ n3 ≤ c3 ∧ (n3 = 0 ∨ ∃ el sp, d3 = .slice el sp ∧ n3 ≤ el.length + sp.length) := by
    obtain ⟨fuel, hf⟩ := h3
    rcases open_ints Try.underlying24 Try.underlying2 (by kernel_rfl) hf with ⟨hcs, hd⟩ | ⟨x, l, c, zs, hcs, _, hl, hm, hz, hd, hcell, hwz⟩
    · simp [Value.cells] at hcs
      obtain ⟨rfl, rfl, rfl⟩ := hcs
      exact ⟨[], Reads.nil _ _, fun _ => rfl, Nat.le_refl _, .inl rfl⟩
    · simp [Value.cells] at hcs
      obtain ⟨rfl, rfl, rfl⟩ := hcs
      exact ⟨_, Reads.of_open hl hm (by simpa using hz) hcell hwz, (fun h => by cases h), hl, .inr ⟨_, _, congrArg Prod.fst hd, open_length (by simpa using hz) hl⟩⟩
  have b0 : n0 ≤ 1048576 := by
    rcases s0 with rfl | ⟨el, sp, rfl, hle⟩
    · decide
    · exact upto_slice hk (j := 0) rfl hle
  have b1 : n1 ≤ 1048576 := by
    rcases s1 with rfl | ⟨el, sp, rfl, hle⟩
    · decide
    · exact upto_slice hk (j := 1) rfl hle
  have b3 : n3 ≤ 1048576 := by
    rcases s3 with rfl | ⟨el, sp, rfl, hle⟩
    · decide
    · exact upto_slice hk (j := 3) rfl hle
  clear hA0 hval0
  refine (walk a0 n0 c0 z0 a1 n1 c1 z1 a2 a3 n3 c3 z3 W w0 e0 l0 w1 e1 l1 w2 w3 e3 l3 b0 b1 b3).mono fun e W' ⟨he, bel⟩ => ?_
  subst he
  exact ⟨_, rfl, _, _, _, [], _, [], hW', trodAll_mk1 (shut_bool Try.underlying4 _), (trodAll_cons_mk (Below.trod laidOut (by kernel_rfl) (of_decide_eq_true (by kernel_rfl)) k0 bel lt0) (trodAll_cons_mk (Below.trod laidOut (by kernel_rfl) (of_decide_eq_true (by kernel_rfl)) k1 bel lt1) (trodAll_cons_mk (shut_int Try.underlying3 w2) (trodAll_cons_mk (Below.trod laidOut (by kernel_rfl) (of_decide_eq_true (by kernel_rfl)) k3 bel lt3) trodAll_mk0)))), rfl, bel.frame _, fun h => by cases h⟩

set_option maxRecDepth 100000 in
theorem lifted (os : Os) (started : os.Started) (H : Type) (enc : TypeId × Value → H) (F : Stop.Interp) :
    ReturnsInHanded {} Try.checked os 4 .any ((Rows.OpenSpec.upto Rows.expertOnesSpec).pre6 enc Try.prog Try.f4 Rows.expertOnesUptoRow.domain false) (((Rows.OpenSpec.upto Rows.expertOnesSpec).at F).post enc Try.prog Try.f4 false true false false) := by
  refine returnsInHanded_of_cond (C := Try.checked) (s := Rows.OpenSpec.upto Rows.expertOnesSpec) (k := Rows.uptoSmall) rfl own started (by kernel_rfl) Try.func4
    (OpenSpec.witness (enc := enc) (C := Try.checked) (s := Rows.OpenSpec.upto Rows.expertOnesSpec) (k := Rows.uptoSmall) rfl false ⟨#[], #[.slice none 0 0, .slice none 0 0, .int .i64 0, .slice none 0 0], []⟩ 8 (by kernel_rfl) (by kernel_rfl) (by kernel_rfl)
      (x := ([.nil, .nil, .lit (.int .i64 0), .nil], [], [])) (by kernel_rfl) rfl (by kernel_rfl)) ?_
  intro W base args ds gs before hval hW _ hk _
  exact contract H enc W base args ds gs before hval hW hk

theorem over : Rows.expertOnesUptoRow.holds Try.pinned (Rows.OpenSpec.upto Rows.expertOnesSpec) :=
  OpenClaim.holds_of_cond 4 Try.f4 rfl rfl rfl rfl rfl rfl rfl ⟨rfl, rfl, rfl, rfl, rfl⟩ rfl rfl rfl rfl rfl (by kernel_rfl) Try.func4 (by kernel_rfl)
    (of_decide_eq_true (by kernel_rfl)) (by unfold Func.isWrapper; first | (rw [if_pos (by decide +kernel)]; kernel_rfl) | (rw [if_neg (by decide +kernel)]; exact ⟨rfl, rfl⟩))
    (fun os started H enc _ F => lifted os started H enc F)

theorem proved : Rows.ExpertOnesUptoSaid :=
  over
#print axioms proved
end Go.Proofs.Ytlpmndlefbghoaa.expertOnes
