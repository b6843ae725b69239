/- For every row that looks, all rows of keys and of values and every count of heads, one head and all heads answer what the document answers, rows and errors alike, and the arguments read afterwards as before. -/
import Derived.Test.YthbddbipmoflfaaRows
import Derived.Test.YthbddbipmoflfaaView
import Derived.Test.YthbddbipmoflfaaOwn
import Derived.Test.YthbddbipmoflfaaSteps
import Derived.Test.YthbddbipmoflfaaSame
import Derived.Test.YthbddbipmoflfaaWhere
import Derived.Test.YthbddbipmoflfaaWorks
import Derived.Test.YthbddbipmoflfaaSoft
import Derived.Test.YthbddbipmoflfaaMean
import Derived.Test.YthbddbipmoflfaaGrids
import Derived.Test.YthbddbipmoflfaaOpen
import Derived.Test.YthbddbipmoflfaaAtPlain
import Derived.Test.YthbddbipmoflfaaAtFits
import Derived.Test.YthbddbipmoflfaaAtFitsNo
import Derived.Test.YthbddbipmoflfaaAtHead
import Derived.Test.YthbddbipmoflfaaAtShapes
import Derived.Test.YthbddbipmoflfaaAtRef
import Derived.Test.YthbddbipmoflfaaAtCut
import Derived.Test.YthbddbipmoflfaaAtAll
import Derived.Test.YthbddbipmoflfaaAtAlls
import Derived.Test.YthbddbipmoflfaaAtRefCut
import Derived.Test.YthbddbipmoflfaaAtReg
import Derived.Test.YthbddbipmoflfaaAtRefAll
import Derived.Test.YthbddbipmoflfaaAtOwn
import Derived.WalkKit
import Derived.ProofKit
import Derived.OpenShut
import Derived.ChangeOld
import Derived.Below
import Derived.WalkLawsBesides
import Derived.ChangeMaps5
import Derived.SizedLaws
namespace Go.Proofs.Ythbddbipmoflfaa.attnHeads
open Go.ChangeShapes Go.WideShapes Go.ChangeAt Go.RowKit
set_option linter.unusedVariables false
set_option linter.unusedSimpArgs false

theorem own : ownKnob Try.prog.godebug = none := by kernel_rfl
theorem laidOut : laidOutB Try.prog = true := by kernel_rfl
theorem bytes2 : Try.prog.bytesOf 2 = 8 := by kernel_rfl


set_option maxHeartbeats 4000000 in
theorem walk (a0 : Option Addr) (n0 c0 : Nat) (z0 : List Int) (a1 : Option Addr) (n1 c1 : Nat) (A1 : Nat → Option Addr) (C1 : Nat → Nat) (R1 : Nat → List Int) (a2 : Option Addr) (n2 c2 : Nat) (A2 : Nat → Option Addr) (C2 : Nat → Nat) (R2 : Nat → List Int) (a3 : Int) (w : World) (w0 : Reads .i64 w a0 n0 z0) (e0 : a0 = none → c0 = 0) (l0 : n0 ≤ c0) (w1 : Grid w a1 n1 A1 C1 R1) (e1 : ∀ r, r < n1 → (A1 r = none → C1 r = 0) ∧ (R1 r).length ≤ C1 r) (l1 : n1 ≤ c1) (f1 : a1 = none → c1 = 0) (w2 : Grid w a2 n2 A2 C2 R2) (e2 : ∀ r, r < n2 → (A2 r = none → C2 r = 0) ∧ (R2 r).length ≤ C2 r) (l2 : n2 ≤ c2) (f2 : a2 = none → c2 = 0) (w3 : (Lit.int .i64 a3).wf = true) (b0 : n0 * 8 ≤ 140737488351232) (b1 : n1 * 24 ≤ 140737488351232) (g1 : ∀ r, r < n1 → (R1 r).length * 8 ≤ 140737488351232) (b2 : n2 * 24 ≤ 140737488351232) (g2 : ∀ r, r < n2 → (R2 r).length * 8 ≤ 140737488351232) :
    Calls Try.prog 3 #[.slice a0 n0 c0, .slice a1 n1 c1, .slice a2 n2 c2, .int .i64 a3] w fun e w' => e = .returned (.bool true) ∧ Below w.heap.size w w' := by
  obtain ⟨i0, hi, hz0, hz1, hz2⟩ := info_parts info2
  have hm := w0.max
  have cap1 := fun r h => (e1 r h).2
  have cap2 := fun r h => (e2 r h).2
  have ko1 := fun (W : World) (h : Grid W a1 n1 A1 C1 R1) => ownRows_call a1 n1 c1 A1 C1 R1 W h (fun r h => (e1 r h).1) b1 g1
  have ko2 := fun (W : World) (h : Grid W a2 n2 A2 C2 R2) => ownRows_call a2 n2 c2 A2 C2 R2 W h (fun r h => (e2 r h).1) b2 g2
  obtain ⟨L, D, k9, k11⟩ : ∃ (L : List Int) (D : Int),
      (∀ W p q b j A C b' j' A' C', Reads .i64 W p n0 z0 → Grid W b n1 A C R1 → Grid W b' n2 A' C' R2 → Calls Try.prog 9 #[.slice p n0 q, .slice b n1 j, .slice b' n2 j'] W fun e w' => (∃ a m c, e = .returned (.tuple #[.slice a m c, .int .i64 D]) ∧ Reads .i64 w' a m L) ∧ Below W.heap.size W w') ∧
      (∀ W, Reads .i64 W a0 n0 z0 → Grid W a1 n1 A1 C1 R1 → Grid W a2 n2 A2 C2 R2 → Calls Try.prog 11 #[.slice a0 n0 c0, .slice a1 n1 c1, .slice a2 n2 c2] W fun e w' => (∃ a m c, e = .returned (.tuple #[.slice a m c, .int .i64 D]) ∧ Reads .i64 w' a m L) ∧ Below W.heap.size W w') :=
    ⟨headR z0 R1 R2 n0 n1 n2, headE n0 n1 n2 R1 R2, fun W p q b j A C b' j' A' C' h h1 h2 => (head_call p n0 q z0 b n1 j A C R1 b' n2 j' A' C' R2 W h h1 h2 (by omega) (by omega)).mono fun e w' ⟨⟨a, m, c, h3, h4, _⟩, h5⟩ => ⟨⟨a, m, c, h3, h4⟩, h5⟩,
      fun W h h1 h2 => (refHead_call a0 n0 c0 z0 a1 n1 c1 A1 C1 R1 a2 n2 c2 A2 C2 R2 W h h1 h2 (by omega) (by omega)).mono fun e w' ⟨⟨a, m, c, h3, h4, _⟩, h5⟩ => ⟨⟨a, m, c, h3, h4⟩, h5⟩⟩
  obtain ⟨L', D', k12, k13⟩ : ∃ (L : List Int) (D : Int),
      (∀ W p q b j A C b' j' A' C', n0 ≤ q → Reads .i64 W p n0 z0 → Grid W b n1 A C R1 → (∀ r, r < n1 → (R1 r).length ≤ C r) → Grid W b' n2 A' C' R2 → (∀ r, r < n2 → (R2 r).length ≤ C' r) → Calls Try.prog 12 #[.slice p n0 q, .slice b n1 j, .slice b' n2 j', .int .i64 a3] W fun e w' => (∃ a m c, e = .returned (.tuple #[.slice a m c, .int .i64 D]) ∧ Reads .i64 w' a m L) ∧ Below W.heap.size W w') ∧
      (∀ W, Reads .i64 W a0 n0 z0 → Grid W a1 n1 A1 C1 R1 → Grid W a2 n2 A2 C2 R2 → Calls Try.prog 13 #[.slice a0 n0 c0, .slice a1 n1 c1, .slice a2 n2 c2, .int .i64 a3] W fun e w' => (∃ a m c, e = .returned (.tuple #[.slice a m c, .int .i64 D]) ∧ Reads .i64 w' a m L) ∧ Below W.heap.size W w') :=
    ⟨allR z0 R1 R2 n0 n1 n2 a3, allE n0 n1 n2 R1 R2 a3, fun W p q b j A C b' j' A' C' hq h h1 hc h2 hc' => all_call p n0 q z0 b n1 j A C R1 b' n2 j' A' C' R2 a3 W h hq h1 hc h2 hc' b0 b1,
      fun W h h1 h2 => refAll_call a0 n0 c0 z0 a1 n1 c1 A1 C1 R1 a2 n2 c2 A2 C2 R2 a3 W h l0 h1 cap1 h2 cap2 b0 b1⟩
  have cpy := fun (W : World) (hb : Below w.heap.size w W) => (w0.below hb)
  have Cur : Hid (Below w.heap.size w w) := Below.refl _ _
  clear cap1 cap2 e1 e2
  go_enter Try.func3, Try.ntmps3
  go_wp2_with (first
    | (at_builtin; refine wpList_copy rfl (.tmp 18) (.tmp 19) 22 rfl w.heap.size 2 i0 (.int .i64 0) 8 Try.underlying22 hi hz0 hz1 hz2 rfl _ 0 [] rfl (World.ownsRow_lit _ #[] 0 (Nat.le_refl _) (by decide) rfl) .i64 a0 n0 c0 z0 rfl (w0.below (below_new (Below.refl _ _) _)) e0 (by unfold maxLen; omega) (by omega) (below_new (Below.refl _ _) _).size ?_; intro v1 W1 ho1 hg1; obtain ⟨p1, q1, rfl, r1, hb1, -, cp1⟩ := copied (Below.refl w.heap.size w) _ ho1 hg1 w0; clear ho1 hg1)
    | (go_at_call_of 10 (Value.slice a1 n1 c1); refine (ko1 W1 (w1.below hb1)).mono ?_; rintro e W2 ⟨⟨p2, q2, P2, Q2, rfl, G2, -⟩, d2⟩; replace r1 := r1.below d2; have hb2 := below_then hb1 d2; clear d2 hb1)
    | (go_at_call_of 10 (Value.slice a2 n2 c2); refine (ko2 W2 (w2.below hb2)).mono ?_; rintro e W3 ⟨⟨p3, q3, P3, Q3, rfl, G3, -⟩, d3⟩; replace r1 := r1.below d3; replace G2 := G2.below d3; have hb3 := below_then hb2 d3; clear d3 hb2)
    | (go_at_call 9; refine (k9 W3 _ _ _ _ _ _ _ _ _ _ r1 G2 G3).mono ?_; rintro e W4 ⟨⟨p4, m4, q4, rfl, r4⟩, d4⟩; have hb4 := below_then hb3 d4; clear d4 hb3 r1 G2 G3 k9)
    | (go_at_call 11; refine (k11 W4 (w0.below hb4) (w1.below hb4) (w2.below hb4)).mono ?_; rintro e W5 ⟨⟨p5, m5, q5, rfl, r5⟩, d5⟩; replace r4 := r4.below d5; have hb5 := below_then hb4 d5; clear d5 hb4 k11)
    | (at_builtin; refine wpList_copy rfl (.tmp 36) (.tmp 37) 22 rfl W5.heap.size 2 i0 (.int .i64 0) 8 Try.underlying22 hi hz0 hz1 hz2 rfl _ 0 [] rfl (World.ownsRow_lit _ #[] 0 (Nat.le_refl _) (by decide) rfl) .i64 a0 n0 c0 z0 rfl ((w0.below hb5).below (below_new (Below.refl _ _) _)) e0 (by unfold maxLen; omega) (by omega) (below_new (Below.refl _ _) _).size ?_; intro v6 W6 ho6 hg6; obtain ⟨p6, q6, rfl, r6, d6, -, cp6⟩ := copied (Below.refl W5.heap.size W5) _ ho6 hg6 w0; have hb6 := below_then hb5 d6; replace r4 := r4.below d6; replace r5 := r5.below d6; clear ho6 hg6 d6)
    | (go_at_call_of 10 (Value.slice a1 n1 c1); refine (ko1 W6 (w1.below hb6)).mono ?_; rintro e W7 ⟨⟨p7, q7, P7, Q7, rfl, G7, cc7⟩, d7⟩; replace r4 := r4.below d7; replace r5 := r5.below d7; replace r6 := r6.below d7; have hb7 := below_then hb6 d7; clear d7 hb6)
    | (go_at_call_of 10 (Value.slice a2 n2 c2); refine (ko2 W7 (w2.below hb7)).mono ?_; rintro e W8 ⟨⟨p8, q8, P8, Q8, rfl, G8, cc8⟩, d8⟩; replace r4 := r4.below d8; replace r5 := r5.below d8; replace r6 := r6.below d8; replace G7 := G7.below d8; have hb8 := below_then hb7 d8; clear d8 hb7)
    | (go_at_call 12; refine (k12 W8 _ _ _ _ _ _ _ _ _ _ cp6 r6 G7 cc7 G8 cc8).mono ?_; rintro e W9 ⟨⟨p9, m9, q9, rfl, r9⟩, d9⟩; replace r4 := r4.below d9; replace r5 := r5.below d9; have hb9 := below_then hb8 d9; clear d9 hb8 r6 G7 G8 k12)
    | (go_at_call 13; refine (k13 W9 (w0.below hb9) (w1.below hb9) (w2.below hb9)).mono ?_; rintro e W10 ⟨⟨pa, ma, qa, rfl, ra⟩, da⟩; replace r4 := r4.below da; replace r5 := r5.below da; replace r9 := r9.below da; have hba := below_then hb9 da; clear da hb9 k13)
    | (go_at_call_of 14 (Value.slice p4 m4 q4); refine (same_call _ _ _ L _ _ _ _ r4 r5).mono ?_; rintro e W11 ⟨rfl, hq⟩; have db := below_drew (Below.refl W10.heap.size W10) hq; replace r9 := r9.below db; replace ra := ra.below db; have hbb := below_then hba db; clear db hq r4 r5 hba)
    | (go_at_call_of 14 (Value.slice p9 m9 q9); refine (same_call _ _ _ L' _ _ _ _ r9 ra).mono ?_; rintro e W12 ⟨rfl, hq⟩; have hbc := below_drew hbb hq; clear hq r9 ra hbb))
  go_ret
  exact ⟨by simp, hbc⟩

theorem contract (H : Type) (enc : TypeId × Value → H) (W : World) (base : Nat) (args : Array Value) (ds gs : List (DataW H)) (before : List MemPlace)
    (hval0 : ∀ (j : Nat) t v, Try.f3.params[j]? = some t → args[j]? = some v → Value.okWide Try.prog W .any base t v)
    (hW : DataW.Whole enc Try.prog Try.f3.params.toList Rows.attnHeadsSpec.vars false W args.toList ds gs before)
    (hsz0 : (DataW.weightsEach Try.prog (Try.f3.params.toList ++ Rows.attnHeadsSpec.plain.varTypes Try.prog) (ds ++ gs)).all (· ≤ reachBytes) = true) :
    Calls Try.prog 3 args W fun e W' => ∃ v, e = .returned v ∧ Rows.attnHeadsSpec.post enc Try.prog Try.f3 false true false false W args v W' := by
  have hval : ∀ (j : Nat) t v, Try.f3.params[j]? = some t → args[j]? = some v → Value.okWide Try.prog W .any base t v := hval0
  have hW' := hW
  obtain ⟨p, q, hA0, hV, rfl, hfz, hnd⟩ := hW
  have hA : DataW.TrodAll enc Try.prog W 0 (fun _ => true) true Try.f3.params.toList args.toList ds p := hA0
  have hsz : (DataW.weightsEach Try.prog (Try.f3.params.toList ++ Rows.attnHeadsSpec.plain.varTypes Try.prog) (ds ++ gs)).all (· ≤ reachBytes) = true := hsz0
  rw [Try.params3] at hA hval hsz
  obtain ⟨v0, vs0, d0, ds0, p0, q0, hargs, rfl, rfl, h0, r0⟩ := trodAll_cons hA
  obtain ⟨v1, vs1, d1, ds1, p1, q1, rfl, rfl, rfl, h1, r1⟩ := trodAll_cons r0
  obtain ⟨v2, vs2, d2, ds2, p2, q2, rfl, rfl, rfl, h2, r2⟩ := trodAll_cons r1
  obtain ⟨v3, vs3, d3, ds3, p3, q3, rfl, rfl, rfl, h3, r3⟩ := trodAll_cons r2
  obtain ⟨rfl, rfl, rfl⟩ := trodAll_nil r3
  obtain rfl : args = #[v0, v1, v2, v3] := by cases args; simp_all
  obtain ⟨rfl, rfl⟩ := trodVars_none hV
  obtain ⟨a0, n0, c0, rfl⟩ := okWide_slice Try.underlying22 (hval 0 22 v0 rfl rfl)
  have k0 := h0
  have lt0 : ∀ x ∈ p0, x.block < W.heap.size := by obtain ⟨m, hm⟩ := k0; exact DataW.trod_lt m _ _ _ hm
  obtain ⟨z0, w0, e0, l0, s0⟩ : ∃ zs, Reads .i64 W a0 n0 zs ∧ (a0 = none → c0 = 0) ∧ n0 ≤ c0 ∧ (n0 = 0 ∨ ∃ el sp, d0 = .slice el sp ∧ n0 ≤ el.length + sp.length) := by
    obtain ⟨fuel, hf⟩ := h0
    rcases open_ints Try.underlying22 Try.underlying2 (by kernel_rfl) hf with ⟨hcs, hd⟩ | ⟨x, l, c, zs, hcs, _, hl, hm, hz, hd, hcell, hwz⟩
    · simp [Value.cells] at hcs
      obtain ⟨rfl, rfl, rfl⟩ := hcs
      exact ⟨[], Reads.nil _ _, fun _ => rfl, Nat.le_refl _, .inl rfl⟩
    · simp [Value.cells] at hcs
      obtain ⟨rfl, rfl, rfl⟩ := hcs
      exact ⟨_, Reads.of_open hl hm (by simpa using hz) hcell hwz, (fun h => by cases h), hl, .inr ⟨_, _, congrArg Prod.fst hd, open_length (by simpa using hz) hl⟩⟩
  obtain ⟨a1, n1, c1, rfl⟩ := okWide_slice Try.underlying23 (hval 1 23 v1 rfl rfl)
  have k1 := h1
  have lt1 : ∀ x ∈ p1, x.block < W.heap.size := by obtain ⟨m, hm⟩ := k1; exact DataW.trod_lt m _ _ _ hm
  obtain ⟨A1, C1, R1, w1, e1, l1, f1, s1⟩ := open_grid h1
  obtain ⟨b1, g1⟩ := s1 _ _ 1 hsz rfl rfl
  obtain ⟨a2, n2, c2, rfl⟩ := okWide_slice Try.underlying23 (hval 2 23 v2 rfl rfl)
  have k2 := h2
  have lt2 : ∀ x ∈ p2, x.block < W.heap.size := by obtain ⟨m, hm⟩ := k2; exact DataW.trod_lt m _ _ _ hm
  obtain ⟨A2, C2, R2, w2, e2, l2, f2, s2⟩ := open_grid h2
  obtain ⟨b2, g2⟩ := s2 _ _ 2 hsz rfl rfl
  obtain ⟨a3, rfl, rfl, rfl, w3⟩ := open_int Try.underlying3 (hval 3 3 v3 rfl rfl) h3
  have b0 : n0 * 8 ≤ 140737488351232 := by
    rcases s0 with rfl | ⟨el, sp, rfl, hle⟩
    · decide
    · have := sized_slice hsz (j := 0) (t := 22) (e := 2) rfl rfl Try.underlying22
      rw [bytes2] at this
      simp only [reachBytes] at this
      omega
  clear hA0 hval0
  refine (walk a0 n0 c0 z0 a1 n1 c1 A1 C1 R1 a2 n2 c2 A2 C2 R2 a3 W w0 e0 l0 w1 e1 l1 f1 w2 e2 l2 f2 w3 b0 b1 g1 b2 g2).mono fun e W' ⟨he, bel⟩ => ?_
  subst he
  exact ⟨_, rfl, _, _, _, [], _, [], hW', trodAll_mk1 (shut_bool Try.underlying4 _), (trodAll_cons_mk (Below.trod laidOut (by kernel_rfl) (of_decide_eq_true (by kernel_rfl)) k0 bel lt0) (trodAll_cons_mk (Below.trod laidOut (by kernel_rfl) (of_decide_eq_true (by kernel_rfl)) k1 bel lt1) (trodAll_cons_mk (Below.trod laidOut (by kernel_rfl) (of_decide_eq_true (by kernel_rfl)) k2 bel lt2) (trodAll_cons_mk (shut_int Try.underlying3 w3) trodAll_mk0)))), rfl, bel.frame _, fun h => by cases h⟩

set_option maxRecDepth 100000 in
theorem lifted (os : Os) (started : os.Started) (H : Type) (enc : TypeId × Value → H) :
    ReturnsInHanded {} Try.checked os 3 .any (Rows.attnHeadsSpec.pre6 enc Try.prog Try.f3 Rows.attnHeadsRow.domain false) (Rows.attnHeadsSpec.post enc Try.prog Try.f3 false true false false) := by
  refine returnsInHanded_of_change_sized (C := Try.checked) own started (by kernel_rfl) Try.func3
    (ChangeSpec.witness6 (enc := enc) (C := Try.checked) false ⟨#[], #[.slice none 0 0, .slice none 0 0, .slice none 0 0, .int .i64 0], []⟩ 8 (by kernel_rfl) (by kernel_rfl) (by kernel_rfl) (by kernel_rfl)) ?_
  intro W base args ds gs before hval hW _ hsz _
  exact contract H enc W base args ds gs before hval hW hsz

theorem over : Rows.attnHeadsRow.holds Try.pinned (OpenSpec.ofChange Rows.attnHeadsSpec) :=
  OpenClaim.holds_of_wide 3 Try.f3 rfl rfl rfl rfl rfl rfl rfl ⟨rfl, rfl, rfl, rfl, rfl⟩ rfl rfl rfl rfl rfl (by kernel_rfl) Try.func3 (by kernel_rfl)
    (of_decide_eq_true (by kernel_rfl)) (by unfold Func.isWrapper; first | (rw [if_pos (by decide +kernel)]; kernel_rfl) | (rw [if_neg (by decide +kernel)]; exact ⟨rfl, rfl⟩))
    (fun os started H enc _ => lifted os started H enc)

theorem proved : Rows.AttnHeadsSaid :=
  over
#print axioms proved
end Go.Proofs.Ythbddbipmoflfaa.attnHeads
