/- For every row of numbers and every row of weights, of any lengths, the row that the program's Rms answers, and its error, are the document's. -/
import Derived.Test.YtdpodanhokihlaaRows
import Derived.Test.YtdpodanhokihlaaSat
import Derived.Test.YtdpodanhokihlaaSatRef
import Derived.Test.YtdpodanhokihlaaAdds
import Derived.Test.YtdpodanhokihlaaView
import Derived.Test.YtdpodanhokihlaaOwn
import Derived.Test.YtdpodanhokihlaaSteps
import Derived.Test.YtdpodanhokihlaaRoot
import Derived.Test.YtdpodanhokihlaaRef
import Derived.Test.YtdpodanhokihlaaOrder
import Derived.Test.YtdpodanhokihlaaRms
import Derived.Test.YtdpodanhokihlaaRmsRef
import Derived.Test.YtdpodanhokihlaaSame
import Derived.WalkKit
import Derived.ProofKit
import Derived.OpenShut
import Derived.ChangeOld
import Derived.Below
import Derived.WalkLawsBesides
import Derived.SizedLaws
namespace Go.Proofs.Ytdpodanhokihlaa.normSizes
open Go.ChangeShapes Go.WideShapes Go.ChangeAt Go.RowKit
set_option linter.unusedVariables false
set_option linter.unusedSimpArgs false

theorem own : ownKnob Try.prog.godebug = none := by kernel_rfl
theorem laidOut : laidOutB Try.prog = true := by kernel_rfl
theorem bytes2 : Try.prog.bytesOf 2 = 8 := by kernel_rfl
theorem bytes38 : Try.prog.bytesOf 38 = 1 := by kernel_rfl


theorem walk (a0 : Option Addr) (n0 c0 : Nat) (z0 : List Int) (a1 : Option Addr) (n1 c1 : Nat) (z1 : List Int) (w : World) (w0 : Reads .i64 w a0 n0 z0) (e0 : a0 = none → c0 = 0) (l0 : n0 ≤ c0) (w1 : Reads .i8 w a1 n1 z1) (e1 : a1 = none → c1 = 0) (l1 : n1 ≤ c1) (b0 : n0 * 8 ≤ 140737488351232) (b1 : n1 * 1 ≤ 140737488351232) :
    Calls Try.prog 3 #[.slice a0 n0 c0, .slice a1 n1 c1] w fun e w' => e = .returned (.bool true) ∧ Below w.heap.size w w' := by
  obtain ⟨i0, hi, hz0, hz1, hz2⟩ := info_parts info2
  obtain ⟨j0, hj, hy0, hy1, hy2⟩ := info_parts info38
  obtain ⟨L, eL⟩ : ∃ L, (if 0 < n0 ∧ n0 = n1 then rmsZ z0 z1 n0 else []) = L := ⟨_, rfl⟩
  obtain ⟨D, eD⟩ : ∃ D : Int, (if 0 < n0 ∧ n0 = n1 then 0 else 21) = D := ⟨_, rfl⟩
  have k1 : ∀ W p q r s, Reads .i64 W p n0 z0 → Reads .i8 W r n1 z1 → Calls Try.prog 9 #[.slice p n0 q, .slice r n1 s] W fun e w' => (∃ a m c, e = .returned (.tuple #[.slice a m c, .int .i64 D]) ∧ Reads .i64 w' a m L) ∧ Below W.heap.size W w' := by
    intro W p q r s h h'
    rw [← eL, ← eD]
    exact rms_call _ _ _ _ _ _ _ _ _ h h' (by omega)
  have k2 : ∀ W, Reads .i64 W a0 n0 z0 → Reads .i8 W a1 n1 z1 → Calls Try.prog 10 #[.slice a0 n0 c0, .slice a1 n1 c1] W fun e w' => (∃ a m c, e = .returned (.tuple #[.slice a m c, .int .i64 D]) ∧ Reads .i64 w' a m L) ∧ Below W.heap.size W w' := by
    intro W h h'
    rw [← eL, ← eD]
    exact refRms_call _ _ _ _ _ _ _ _ _ h h' (by omega)
  clear eL eD
  have hb := Below.refl w.heap.size w
  go_enter Try.func3, Try.ntmps3
  go_wp2_with (first
    | (at_builtin; refine wpList_copy rfl (.tmp 10) (.tmp 11) 22 rfl w.heap.size 2 i0 (.int .i64 0) 8 Try.underlying22 hi hz0 hz1 hz2 rfl _ 0 [] rfl (World.ownsRow_lit _ #[] 0 hb.size (by decide) rfl) .i64 a0 n0 c0 z0 rfl (w0.below (below_new hb _)) e0 (by unfold maxLen; omega) (by omega) (below_new hb _).size ?_; intro v1 W1 ho1 hg1; obtain ⟨p1, q1, rfl, r1, hb1, -⟩ := copied hb _ ho1 hg1 w0; clear ho1 hg1)
    | (at_builtin; refine wpList_copy rfl (.tmp 13) (.tmp 14) 23 rfl w.heap.size 38 j0 (.int .i8 0) 1 Try.underlying23 hj hy0 hy1 hy2 rfl _ 0 [] rfl (World.ownsRow_lit _ #[] 0 hb1.size (by decide) rfl) .i8 a1 n1 c1 z1 rfl (w1.below (below_new hb1 _)) e1 (by unfold maxLen; omega) (by omega) (below_new hb1 _).size ?_; intro v2 W2 ho2 hg2; obtain ⟨p2, q2, rfl, r2, hb2, -⟩ := copied hb1 _ ho2 hg2 w1; replace r1 := r1.below (copied_from hb1 _ ho2 hg2); clear ho2 hg2)
    | (go_at_call 9; refine (k1 _ _ _ _ _ r1 r2).mono ?_; rintro e W3 ⟨⟨p3, m3, q3, rfl, r3⟩, hb3⟩; replace hb3 := below_then hb2 hb3; clear r1 r2)
    | (go_at_call 10; refine (k2 _ (w0.below hb3) (w1.below hb3)).mono ?_; rintro e W4 ⟨⟨p4, m4, q4, rfl, r4⟩, hb4⟩; replace r3 := r3.below hb4; replace hb4 := below_then hb3 hb4)
    | (go_at_call 11; refine (same_call _ _ _ L _ _ _ _ r3 r4).mono ?_; rintro e W5 ⟨rfl, hb5⟩; replace hb5 := below_drew hb4 hb5; clear r3 r4))
  go_ret
  exact ⟨rfl, by assumption⟩

theorem contract (H : Type) (enc : TypeId × Value → H) (W : World) (base : Nat) (args : Array Value) (ds gs : List (DataW H)) (before : List MemPlace)
    (hval0 : ∀ (j : Nat) t v, Try.f3.params[j]? = some t → args[j]? = some v → Value.okWide Try.prog W .any base t v)
    (hW : DataW.Whole enc Try.prog Try.f3.params.toList Rows.normSizesSpec.vars false W args.toList ds gs before)
    (hsz0 : (DataW.weightsEach Try.prog (Try.f3.params.toList ++ Rows.normSizesSpec.plain.varTypes Try.prog) (ds ++ gs)).all (· ≤ reachBytes) = true) :
    Calls Try.prog 3 args W fun e W' => ∃ v, e = .returned v ∧ Rows.normSizesSpec.post enc Try.prog Try.f3 false true false false W args v W' := by
  have hval : ∀ (j : Nat) t v, Try.f3.params[j]? = some t → args[j]? = some v → Value.okWide Try.prog W .any base t v := hval0
  have hW' := hW
  obtain ⟨p, q, hA0, hV, rfl, hfz, hnd⟩ := hW
  have hA : DataW.TrodAll enc Try.prog W 0 (fun _ => true) true Try.f3.params.toList args.toList ds p := hA0
  have hsz : (DataW.weightsEach Try.prog (Try.f3.params.toList ++ Rows.normSizesSpec.plain.varTypes Try.prog) (ds ++ gs)).all (· ≤ reachBytes) = true := hsz0
  rw [Try.params3] at hA hval hsz
  obtain ⟨v0, vs0, d0, ds0, p0, q0, hargs, rfl, rfl, h0, r0⟩ := trodAll_cons hA
  obtain ⟨v1, vs1, d1, ds1, p1, q1, rfl, rfl, rfl, h1, r1⟩ := trodAll_cons r0
  obtain ⟨rfl, rfl, rfl⟩ := trodAll_nil r1
  obtain rfl : args = #[v0, v1] := by cases args; simp_all
  obtain ⟨rfl, rfl⟩ := trodVars_none hV
  obtain ⟨a0, n0, c0, rfl⟩ := okWide_slice Try.underlying22 (hval 0 22 v0 rfl rfl)
  have k0 := h0
  have lt0 : ∀ x ∈ p0, x.block < W.heap.size := by obtain ⟨m, hm⟩ := k0; exact DataW.trod_lt m _ _ _ hm
  obtain ⟨z0, w0, e0, l0, s0⟩ : ∃ zs, Reads .i64 W a0 n0 zs ∧ (a0 = none → c0 = 0) ∧ n0 ≤ c0 ∧ (n0 = 0 ∨ ∃ el sp, d0 = .slice el sp ∧ n0 ≤ el.length + sp.length) := by
    obtain ⟨fuel, hf⟩ := h0
    rcases open_ints Try.underlying22 Try.underlying2 (by kernel_rfl) hf with ⟨hcs, hd⟩ | ⟨x, l, c, zs, hcs, _, hl, hm, hz, hd, hcell, hwz⟩
    · simp [Value.cells] at hcs
      obtain ⟨rfl, rfl, rfl⟩ := hcs
      exact ⟨[], Reads.nil _ _, fun _ => rfl, Nat.le_refl _, .inl rfl⟩
    · simp [Value.cells] at hcs
      obtain ⟨rfl, rfl, rfl⟩ := hcs
      exact ⟨_, Reads.of_open hl hm (by simpa using hz) hcell hwz, (fun h => by cases h), hl, .inr ⟨_, _, congrArg Prod.fst hd, open_length (by simpa using hz) hl⟩⟩
  obtain ⟨a1, n1, c1, rfl⟩ := okWide_slice Try.underlying23 (hval 1 23 v1 rfl rfl)
  have k1 := h1
  have lt1 : ∀ x ∈ p1, x.block < W.heap.size := by obtain ⟨m, hm⟩ := k1; exact DataW.trod_lt m _ _ _ hm
  obtain ⟨z1, w1, e1, l1, s1⟩ : ∃ zs, Reads .i8 W a1 n1 zs ∧ (a1 = none → c1 = 0) ∧ n1 ≤ c1 ∧ (n1 = 0 ∨ ∃ el sp, d1 = .slice el sp ∧ n1 ≤ el.length + sp.length) := by
    obtain ⟨fuel, hf⟩ := h1
    rcases open_ints Try.underlying23 Try.underlying38 (by kernel_rfl) hf with ⟨hcs, hd⟩ | ⟨x, l, c, zs, hcs, _, hl, hm, hz, hd, hcell, hwz⟩
    · simp [Value.cells] at hcs
      obtain ⟨rfl, rfl, rfl⟩ := hcs
      exact ⟨[], Reads.nil _ _, fun _ => rfl, Nat.le_refl _, .inl rfl⟩
    · simp [Value.cells] at hcs
      obtain ⟨rfl, rfl, rfl⟩ := hcs
      exact ⟨_, Reads.of_open hl hm (by simpa using hz) hcell hwz, (fun h => by cases h), hl, .inr ⟨_, _, congrArg Prod.fst hd, open_length (by simpa using hz) hl⟩⟩
  have b0 : n0 * 8 ≤ 140737488351232 := by
    rcases s0 with rfl | ⟨el, sp, rfl, hle⟩
    · decide
    · have := sized_slice hsz (j := 0) (t := 22) (e := 2) rfl rfl Try.underlying22
      rw [bytes2] at this
      simp only [reachBytes] at this
      omega
  have b1 : n1 * 1 ≤ 140737488351232 := by
    rcases s1 with rfl | ⟨el, sp, rfl, hle⟩
    · decide
    · have := sized_slice hsz (j := 1) (t := 23) (e := 38) rfl rfl Try.underlying23
      rw [bytes38] at this
      simp only [reachBytes] at this
      omega
  clear hA0 hval0
  refine (walk a0 n0 c0 z0 a1 n1 c1 z1 W w0 e0 l0 w1 e1 l1 b0 b1).mono fun e W' ⟨he, bel⟩ => ?_
  subst he
  exact ⟨_, rfl, _, _, _, [], _, [], hW', trodAll_mk1 (shut_bool Try.underlying4 _), (trodAll_cons_mk (Below.trod laidOut (by kernel_rfl) (of_decide_eq_true (by kernel_rfl)) k0 bel lt0) (trodAll_cons_mk (Below.trod laidOut (by kernel_rfl) (of_decide_eq_true (by kernel_rfl)) k1 bel lt1) trodAll_mk0)), rfl, bel.frame _, fun h => by cases h⟩

set_option maxRecDepth 100000 in
theorem lifted (os : Os) (started : os.Started) (H : Type) (enc : TypeId × Value → H) :
    ReturnsInHanded {} Try.checked os 3 .any (Rows.normSizesSpec.pre6 enc Try.prog Try.f3 Rows.normSizesRow.domain false) (Rows.normSizesSpec.post enc Try.prog Try.f3 false true false false) := by
  refine returnsInHanded_of_change_sized (C := Try.checked) own started (by kernel_rfl) Try.func3
    (ChangeSpec.witness6 (enc := enc) (C := Try.checked) false ⟨#[], #[.slice none 0 0, .slice none 0 0], []⟩ 8 (by kernel_rfl) (by kernel_rfl) (by kernel_rfl) (by kernel_rfl)) ?_
  intro W base args ds gs before hval hW _ hsz _
  exact contract H enc W base args ds gs before hval hW hsz

theorem over : Rows.normSizesRow.holds Try.pinned (OpenSpec.ofChange Rows.normSizesSpec) :=
  OpenClaim.holds_of_wide 3 Try.f3 rfl rfl rfl rfl rfl rfl rfl ⟨rfl, rfl, rfl, rfl, rfl⟩ rfl rfl rfl rfl rfl (by kernel_rfl) Try.func3 (by kernel_rfl)
    (of_decide_eq_true (by kernel_rfl)) (by unfold Func.isWrapper; first | (rw [if_pos (by decide +kernel)]; kernel_rfl) | (rw [if_neg (by decide +kernel)]; exact ⟨rfl, rfl⟩))
    (fun os started H enc _ => lifted os started H enc)

theorem proved : Rows.NormSizesSaid :=
  over
#print axioms proved
end Go.Proofs.Ytdpodanhokihlaa.normSizes
