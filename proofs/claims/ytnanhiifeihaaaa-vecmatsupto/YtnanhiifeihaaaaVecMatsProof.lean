/- For every matrix of weights, every count of rows and every row of numbers, of together at most 1048576 values, the products of its rows that the program answers, and its error, are the document's. -/
import Derived.Test.YtnanhiifeihaaaaRows
import Derived.Test.YtnanhiifeihaaaaSat
import Derived.Test.YtnanhiifeihaaaaSatRef
import Derived.Test.YtnanhiifeihaaaaAdds
import Derived.Test.YtnanhiifeihaaaaView
import Derived.Test.YtnanhiifeihaaaaOwn
import Derived.Test.YtnanhiifeihaaaaSteps
import Derived.Test.YtnanhiifeihaaaaDots
import Derived.Test.YtnanhiifeihaaaaDotsRef
import Derived.Test.YtnanhiifeihaaaaFits
import Derived.Test.YtnanhiifeihaaaaMats
import Derived.Test.YtnanhiifeihaaaaMatsRef
import Derived.WalkKit
import Derived.ProofKit
import Derived.OpenShut
import Derived.ChangeOld
import Derived.Below
import Derived.WalkLawsBesides
import Derived.JoinedCond
namespace Go.Proofs.Ytnanhiifeihaaaa.vecMats
open Go.ChangeShapes Go.WideShapes Go.ChangeAt Go.RowKit
set_option linter.unusedVariables false
set_option linter.unusedSimpArgs false

theorem own : ownKnob Try.prog.godebug = none := by kernel_rfl
theorem laidOut : laidOutB Try.prog = true := by kernel_rfl


theorem walk (a0 : Option Addr) (n0 c0 : Nat) (z0 : List Int) (a1 : Int) (a2 : Option Addr) (n2 c2 : Nat) (z2 : List Int) (w : World) (w0 : Reads .i8 w a0 n0 z0) (e0 : a0 = none → c0 = 0) (l0 : n0 ≤ c0) (w1 : (Lit.int .i64 a1).wf = true) (w2 : Reads .i64 w a2 n2 z2) (e2 : a2 = none → c2 = 0) (l2 : n2 ≤ c2) (b0 : n0 ≤ 1048576) (b2 : n2 ≤ 1048576) :
    Calls Try.prog 4 #[.slice a0 n0 c0, .int .i64 a1, .slice a2 n2 c2] w fun e w' => e = .returned (.bool true) ∧ Below w.heap.size w w' := by
  obtain ⟨i0, hi, hz0, hz1, hz2⟩ := info_parts info2
  obtain ⟨j0, hj, hy0, hy1, hy2⟩ := info_parts info38
  obtain ⟨L, eL⟩ : ∃ L, (if 0 < n2 ∧ n0 % n2 = 0 ∧ ((n0 / n2 : Nat) : Int) = a1 then (List.range (n0 / n2)).map (rowZ z0 n2 z2) else []) = L := ⟨_, rfl⟩
  obtain ⟨D, eD⟩ : ∃ D : Int, (if 0 < n2 ∧ n0 % n2 = 0 ∧ ((n0 / n2 : Nat) : Int) = a1 then 0 else 21) = D := ⟨_, rfl⟩
  have k1 : ∀ W p q r s, Reads .i8 W p n0 z0 → n0 ≤ q → Reads .i64 W r n2 z2 → Calls Try.prog 13 #[.slice p n0 q, .int .i64 a1, .slice r n2 s] W fun e w' => (∃ a m c, e = .returned (.tuple #[.slice a m c, .int .i64 D]) ∧ Reads .i64 w' a m L) ∧ Below W.heap.size W w' := by
    intro W p q r s h h' h''
    rw [← eL, ← eD]
    exact mat_call _ _ _ _ _ _ _ _ _ _ h h' h'' w1 (by omega)
  have k2 : ∀ W, Reads .i8 W a0 n0 z0 → Reads .i64 W a2 n2 z2 → Calls Try.prog 14 #[.slice a0 n0 c0, .int .i64 a1, .slice a2 n2 c2] W fun e w' => (∃ a m c, e = .returned (.tuple #[.slice a m c, .int .i64 D]) ∧ Reads .i64 w' a m L) ∧ Below W.heap.size W w' := by
    intro W h h'
    rw [← eL, ← eD]
    exact refMat_call _ _ _ _ _ _ _ _ _ _ h l0 h' w1 (by omega)
  clear eL eD
  have hb := Below.refl w.heap.size w
  go_enter Try.func4, Try.ntmps4
  go_wp2_with (first
    | (at_builtin; refine wpList_copy rfl (.tmp 12) (.tmp 13) 22 rfl w.heap.size 38 j0 (.int .i8 0) 1 Try.underlying22 hj hy0 hy1 hy2 rfl _ 0 [] rfl (World.ownsRow_lit _ #[] 0 hb.size (by decide) rfl) .i8 a0 n0 c0 z0 rfl (w0.below (below_new hb _)) e0 (by unfold maxLen; omega) (by omega) (below_new hb _).size ?_; intro v1 W1 ho1 hg1; obtain ⟨p1, q1, rfl, r1, hb1, -, lq⟩ := copied hb _ ho1 hg1 w0; clear ho1 hg1)
    | (at_builtin; refine wpList_copy rfl (.tmp 18) (.tmp 19) 23 rfl w.heap.size 2 i0 (.int .i64 0) 8 Try.underlying23 hi hz0 hz1 hz2 rfl _ 0 [] rfl (World.ownsRow_lit _ #[] 0 hb1.size (by decide) rfl) .i64 a2 n2 c2 z2 rfl (w2.below (below_new hb1 _)) e2 (by unfold maxLen; omega) (by omega) (below_new hb1 _).size ?_; intro v2 W2 ho2 hg2; obtain ⟨p2, q2, rfl, r2, hb2, -, -⟩ := copied hb1 _ ho2 hg2 w2; replace r1 := r1.below (copied_from hb1 _ ho2 hg2); clear ho2 hg2)
    | (go_at_call 13; refine (k1 _ _ _ _ _ r1 lq r2).mono ?_; rintro e W3 ⟨⟨p3, m3, q3, rfl, r3⟩, hb3⟩; replace hb3 := below_then hb2 hb3; clear r1 r2)
    | (go_at_call 14; refine (k2 _ (w0.below hb3) (w2.below hb3)).mono ?_; rintro e W4 ⟨⟨p4, m4, q4, rfl, r4⟩, hb4⟩; replace r3 := r3.below hb4; replace hb4 := below_then hb3 hb4)
    | (go_at_call 15; refine (same_call _ _ _ L _ _ _ _ r3 r4).mono ?_; rintro e W5 ⟨rfl, hb5⟩; replace hb5 := below_drew hb4 hb5; clear r3 r4))
  go_ret
  exact ⟨rfl, by assumption⟩

theorem contract (H : Type) (enc : TypeId × Value → H) (W : World) (base : Nat) (args : Array Value) (ds gs : List (DataW H)) (before : List MemPlace)
    (hval0 : ∀ (j : Nat) t v, Try.f4.params[j]? = some t → args[j]? = some v → Value.okWide Try.prog W .any base t v)
    (hW : DataW.Whole enc Try.prog Try.f4.params.toList Rows.vecMatsSpec.vars false W args.toList ds gs before)
    (hk : Rows.uptoSmall H (ds ++ gs) = true) :
    Calls Try.prog 4 args W fun e W' => ∃ v, e = .returned v ∧ Rows.vecMatsSpec.post enc Try.prog Try.f4 false true false false W args v W' := by
  have hval : ∀ (j : Nat) t v, Try.f4.params[j]? = some t → args[j]? = some v → Value.okWide Try.prog W .any base t v := hval0
  have hW' := hW
  obtain ⟨p, q, hA0, hV, rfl, hfz, hnd⟩ := hW
  have hA : DataW.TrodAll enc Try.prog W 0 (fun _ => true) true Try.f4.params.toList args.toList ds p := hA0
  rw [Try.params4] at hA hval
  obtain ⟨v0, vs0, d0, ds0, p0, q0, hargs, rfl, rfl, h0, r0⟩ := trodAll_cons hA
  obtain ⟨v1, vs1, d1, ds1, p1, q1, rfl, rfl, rfl, h1, r1⟩ := trodAll_cons r0
  obtain ⟨v2, vs2, d2, ds2, p2, q2, rfl, rfl, rfl, h2, r2⟩ := trodAll_cons r1
  obtain ⟨rfl, rfl, rfl⟩ := trodAll_nil r2
  obtain rfl : args = #[v0, v1, v2] := by cases args; simp_all
  obtain ⟨rfl, rfl⟩ := trodVars_none hV
  obtain ⟨a0, n0, c0, rfl⟩ := okWide_slice Try.underlying22 (hval 0 22 v0 rfl rfl)
  have k0 := h0
  have lt0 : ∀ x ∈ p0, x.block < W.heap.size := by obtain ⟨m, hm⟩ := k0; exact DataW.trod_lt m _ _ _ hm
  obtain ⟨z0, w0, e0, l0, s0⟩ : ∃ zs, Reads .i8 W a0 n0 zs ∧ (a0 = none → c0 = 0) ∧ n0 ≤ c0 ∧ (n0 = 0 ∨ ∃ el sp, d0 = .slice el sp ∧ n0 ≤ el.length + sp.length) := by
    obtain ⟨fuel, hf⟩ := h0
    rcases open_ints Try.underlying22 Try.underlying38 (by kernel_rfl) hf with ⟨hcs, hd⟩ | ⟨x, l, c, zs, hcs, _, hl, hm, hz, hd, hcell, hwz⟩
    · simp [Value.cells] at hcs
      obtain ⟨rfl, rfl, rfl⟩ := hcs
      exact ⟨[], Reads.nil _ _, fun _ => rfl, Nat.le_refl _, .inl rfl⟩
    · simp [Value.cells] at hcs
      obtain ⟨rfl, rfl, rfl⟩ := hcs
      exact ⟨_, Reads.of_open hl hm (by simpa using hz) hcell hwz, (fun h => by cases h), hl, .inr ⟨_, _, congrArg Prod.fst hd, open_length (by simpa using hz) hl⟩⟩
  obtain ⟨a1, rfl, rfl, rfl, w1⟩ := open_int Try.underlying3 (hval 1 3 v1 rfl rfl) h1
  obtain ⟨a2, n2, c2, rfl⟩ := okWide_slice Try.underlying23 (hval 2 23 v2 rfl rfl)
  have k2 := h2
  have lt2 : ∀ x ∈ p2, x.block < W.heap.size := by obtain ⟨m, hm⟩ := k2; exact DataW.trod_lt m _ _ _ hm
  obtain ⟨z2, w2, e2, l2, s2⟩ : ∃ zs, Reads .i64 W a2 n2 zs ∧ (a2 = none → c2 = 0) ∧ n2 ≤ c2 ∧ (n2 = 0 ∨ ∃ el sp, d2 = .slice el sp ∧ n2 ≤ el.length + sp.length) := by
    obtain ⟨fuel, hf⟩ := h2
    rcases open_ints Try.underlying23 Try.underlying2 (by kernel_rfl) hf with ⟨hcs, hd⟩ | ⟨x, l, c, zs, hcs, _, hl, hm, hz, hd, hcell, hwz⟩
    · simp [Value.cells] at hcs
      obtain ⟨rfl, rfl, rfl⟩ := hcs
      exact ⟨[], Reads.nil _ _, fun _ => rfl, Nat.le_refl _, .inl rfl⟩
    · simp [Value.cells] at hcs
      obtain ⟨rfl, rfl, rfl⟩ := hcs
      exact ⟨_, Reads.of_open hl hm (by simpa using hz) hcell hwz, (fun h => by cases h), hl, .inr ⟨_, _, congrArg Prod.fst hd, open_length (by simpa using hz) hl⟩⟩
  have b0 : n0 ≤ 1048576 := by
    rcases s0 with rfl | ⟨el, sp, rfl, hle⟩
    · decide
    · exact upto_slice hk (j := 0) rfl hle
  have b2 : n2 ≤ 1048576 := by
    rcases s2 with rfl | ⟨el, sp, rfl, hle⟩
    · decide
    · exact upto_slice hk (j := 2) rfl hle
  clear hA0 hval0
  refine (walk a0 n0 c0 z0 a1 a2 n2 c2 z2 W w0 e0 l0 w1 w2 e2 l2 b0 b2).mono fun e W' ⟨he, bel⟩ => ?_
  subst he
  exact ⟨_, rfl, _, _, _, [], _, [], hW', trodAll_mk1 (shut_bool Try.underlying4 _), (trodAll_cons_mk (Below.trod laidOut (by kernel_rfl) (of_decide_eq_true (by kernel_rfl)) k0 bel lt0) (trodAll_cons_mk (shut_int Try.underlying3 w1) (trodAll_cons_mk (Below.trod laidOut (by kernel_rfl) (of_decide_eq_true (by kernel_rfl)) k2 bel lt2) trodAll_mk0))), rfl, bel.frame _, fun h => by cases h⟩

set_option maxRecDepth 100000 in
theorem lifted (os : Os) (started : os.Started) (H : Type) (enc : TypeId × Value → H) (F : Stop.Interp) :
    ReturnsInHanded {} Try.checked os 4 .any ((Rows.OpenSpec.upto Rows.vecMatsSpec).pre6 enc Try.prog Try.f4 Rows.vecMatsUptoRow.domain false) (((Rows.OpenSpec.upto Rows.vecMatsSpec).at F).post enc Try.prog Try.f4 false true false false) := by
  refine returnsInHanded_of_cond (C := Try.checked) (s := Rows.OpenSpec.upto Rows.vecMatsSpec) (k := Rows.uptoSmall) rfl own started (by kernel_rfl) Try.func4
    (OpenSpec.witness (enc := enc) (C := Try.checked) (s := Rows.OpenSpec.upto Rows.vecMatsSpec) (k := Rows.uptoSmall) rfl false ⟨#[], #[.slice none 0 0, .int .i64 0, .slice none 0 0], []⟩ 8 (by kernel_rfl) (by kernel_rfl) (by kernel_rfl)
      (x := ([.nil, .lit (.int .i64 0), .nil], [], [])) (by kernel_rfl) rfl (by kernel_rfl)) ?_
  intro W base args ds gs before hval hW _ hk _
  exact contract H enc W base args ds gs before hval hW hk

theorem over : Rows.vecMatsUptoRow.holds Try.pinned (Rows.OpenSpec.upto Rows.vecMatsSpec) :=
  OpenClaim.holds_of_cond 4 Try.f4 rfl rfl rfl rfl rfl rfl rfl ⟨rfl, rfl, rfl, rfl, rfl⟩ rfl rfl rfl rfl rfl (by kernel_rfl) Try.func4 (by kernel_rfl)
    (of_decide_eq_true (by kernel_rfl)) (by unfold Func.isWrapper; first | (rw [if_pos (by decide +kernel)]; kernel_rfl) | (rw [if_neg (by decide +kernel)]; exact ⟨rfl, rfl⟩))
    (fun os started H enc _ F => lifted os started H enc F)

theorem proved : Rows.VecMatsUptoSaid :=
  over
#print axioms proved
end Go.Proofs.Ytnanhiifeihaaaa.vecMats
