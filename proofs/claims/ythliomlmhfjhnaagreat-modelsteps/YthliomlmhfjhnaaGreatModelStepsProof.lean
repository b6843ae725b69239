/- For every model and adapter of at most ten layers, every at most fifty rows behind which it stands, every place and every token, what the program's Step and Width answer is the document's, and model and adapter are as they were (greater ones are let pass). -/
import Derived.Test.YthliomlmhfjhnaaGreatRows
import Derived.Test.YthliomlmhfjhnaaGreatZs9
import Derived.Test.YthliomlmhfjhnaaGreatZs49
import Derived.WalkKit
import Derived.ProofKit
import Derived.OpenShut
import Derived.ChangeOld
import Derived.Below
import Derived.WalkLawsBesides
import Derived.ChangeMaps5
import Derived.SizedLaws
namespace Go.Proofs.YthliomlmhfjhnaaGreat.modelSteps
set_option maxRecDepth 20000
open Go.ChangeShapes Go.WideShapes Go.ChangeAt Go.RowKit
set_option linter.unusedVariables false
set_option linter.unusedSimpArgs false

theorem own : ownKnob Tryz.prog.godebug = none := by kernel_rfl
theorem laidOut : laidOutB Tryz.prog = true := by kernel_rfl


theorem walk (md0 mh0 ml0 mv0 mu0 mx0 mt0 mn0 : Int) (E0 L0 N0 O0 : SL) (Y0 U0 D0 : Nat → Nat → SL) (m0 : ModV) (R1 S1 : Int) (L1 : SL) (Y1 : Nat → Nat → SL) (m1 : AdV) (a2 : Option Addr) (n2 c2 : Nat) (A2 : Nat → Option Addr) (C2 : Nat → Nat) (R2 : Nat → List Int) (a3 : Int) (a4 : Int) (w : World) (w0 : ModAt w E0 L0 N0 O0 Y0 U0 D0 m0) (l0 : m0.ln ≤ 9223372036854775807) (r1 : (Lit.int .i64 R1).wf = true) (s1 : (Lit.int .i64 S1).wf = true) (w1 : AdAt w L1 Y1 m1) (l1 : m1.ln ≤ 9223372036854775807) (w2 : Grid w a2 n2 A2 C2 R2) (e2 : ∀ r, r < n2 → (A2 r = none → C2 r = 0) ∧ (R2 r).length ≤ C2 r) (l2 : n2 ≤ c2) (f2 : a2 = none → c2 = 0) (w3 : (Lit.int .i64 a3).wf = true) (w4 : (Lit.int .i64 a4).wf = true) (b0 : m0.ln ≤ 20 → Fits m0) (b1 : m1.ln ≤ 20 → FitsA m1) (b2 : n2 * 24 ≤ 140737488351232) (g2 : ∀ r, r < n2 → (R2 r).length * 8 ≤ 140737488351232) :
    Calls Tryz.prog 3 #[.agg #[.int .i64 md0, .int .i64 mh0, .int .i64 ml0, .int .i64 mv0, .int .i64 mu0, .int .i64 mx0, .int .i64 mt0, .int .i64 mn0, .slice E0.a E0.n E0.c, .slice L0.a L0.n L0.c, .slice N0.a N0.n N0.c, .slice O0.a O0.n O0.c], .agg #[.int .i64 R1, .int .i64 S1, .slice L1.a L1.n L1.c], .slice a2 n2 c2, .int .i64 a3, .int .i64 a4] w fun e w' => e = .returned (.bool true) ∧ Below w.heap.size w w' := by
  exact steps_walk ⟨md0, mh0, ml0, mv0, mu0, mx0, mt0, mn0, m0, R1, S1, m1⟩ E0 L0 N0 O0 Y0 U0 D0 L1 Y1 w w0 w1 l0 l1 b0 b1 a2 n2 c2 A2 C2 R2 w2 e2 b2 g2 a3 a4

theorem contract (H : Type) (enc : TypeId × Value → H) (W : World) (base : Nat) (args : Array Value) (ds gs : List (DataW H)) (before : List MemPlace)
    (hval0 : ∀ (j : Nat) t v, Tryz.f3.params[j]? = some t → args[j]? = some v → Value.okWide Tryz.prog W .any base t v)
    (hW : DataW.Whole enc Tryz.prog Tryz.f3.params.toList Rows.modelStepsSpec.vars false W args.toList ds gs before)
    (hsz0 : (DataW.weightsEach Tryz.prog (Tryz.f3.params.toList ++ Rows.modelStepsSpec.plain.varTypes Tryz.prog) (ds ++ gs)).all (· ≤ reachBytes) = true) :
    Calls Tryz.prog 3 args W fun e W' => ∃ v, e = .returned v ∧ Rows.modelStepsSpec.post enc Tryz.prog Tryz.f3 false true false false W args v W' := by
  have hval : ∀ (j : Nat) t v, Tryz.f3.params[j]? = some t → args[j]? = some v → Value.okWide Tryz.prog W .any base t v := hval0
  have hW' := hW
  obtain ⟨p, q, hA0, hV, rfl, hfz, hnd⟩ := hW
  have hA : DataW.TrodAll enc Tryz.prog W 0 (fun _ => true) true Tryz.f3.params.toList args.toList ds p := hA0
  have hsz : (DataW.weightsEach Tryz.prog (Tryz.f3.params.toList ++ Rows.modelStepsSpec.plain.varTypes Tryz.prog) (ds ++ gs)).all (· ≤ reachBytes) = true := hsz0
  rw [Tryz.params3] at hA hval hsz
  obtain ⟨v0, vs0, d0, ds0, p0, q0, hargs, rfl, rfl, h0, r0⟩ := trodAll_cons hA
  obtain ⟨v1, vs1, d1, ds1, p1, q1, rfl, rfl, rfl, h1, r1⟩ := trodAll_cons r0
  obtain ⟨v2, vs2, d2, ds2, p2, q2, rfl, rfl, rfl, h2, r2⟩ := trodAll_cons r1
  obtain ⟨v3, vs3, d3, ds3, p3, q3, rfl, rfl, rfl, h3, r3⟩ := trodAll_cons r2
  obtain ⟨v4, vs4, d4, ds4, p4, q4, rfl, rfl, rfl, h4, r4⟩ := trodAll_cons r3
  obtain ⟨rfl, rfl, rfl⟩ := trodAll_nil r4
  obtain rfl : args = #[v0, v1, v2, v3, v4] := by cases args; simp_all
  obtain ⟨rfl, rfl⟩ := trodVars_none hV
  have k0 := h0
  have lt0 : ∀ x ∈ p0, x.block < W.heap.size := by obtain ⟨m, hm⟩ := k0; exact DataW.trod_lt m _ _ _ hm
  obtain ⟨md0, mh0, ml0, mv0, mu0, mx0, mt0, mn0, E0, L0, N0, O0, Y0, U0, D0, m0, rfl, w0, l0, s0⟩ := open_model (hval 0 27 v0 rfl rfl) h0
  have b0 : m0.ln ≤ 20 → Fits m0 := s0 fun q hq => of_decide_eq_true (List.all_eq_true.1 hsz q (DataW.weights_mem_each (j := 0) rfl rfl q hq))
  have k1 := h1
  have lt1 : ∀ x ∈ p1, x.block < W.heap.size := by obtain ⟨m, hm⟩ := k1; exact DataW.trod_lt m _ _ _ hm
  obtain ⟨R1, S1, L1, Y1, m1, rfl, rr1, ss1, w1, l1, f1⟩ := open_adapter (hval 1 30 v1 rfl rfl) h1
  have b1 : m1.ln ≤ 20 → FitsA m1 := f1 fun q hq => of_decide_eq_true (List.all_eq_true.1 hsz q (DataW.weights_mem_each (j := 1) rfl rfl q hq))
  obtain ⟨a2, n2, c2, rfl⟩ := okWide_slice Tryz.underlying31 (hval 2 31 v2 rfl rfl)
  have k2 := h2
  have lt2 : ∀ x ∈ p2, x.block < W.heap.size := by obtain ⟨m, hm⟩ := k2; exact DataW.trod_lt m _ _ _ hm
  obtain ⟨A2, C2, R2, w2, e2, l2, f2, s2⟩ := open_grid h2
  obtain ⟨b2, g2⟩ := s2 _ _ 2 hsz rfl rfl
  obtain ⟨a3, rfl, rfl, rfl, w3⟩ := open_int Tryz.underlying3 (hval 3 3 v3 rfl rfl) h3
  obtain ⟨a4, rfl, rfl, rfl, w4⟩ := open_int Tryz.underlying3 (hval 4 3 v4 rfl rfl) h4
  clear hA0 hval0
  refine (walk md0 mh0 ml0 mv0 mu0 mx0 mt0 mn0 E0 L0 N0 O0 Y0 U0 D0 m0 R1 S1 L1 Y1 m1 a2 n2 c2 A2 C2 R2 a3 a4 W w0 l0 rr1 ss1 w1 l1 w2 e2 l2 f2 w3 w4 b0 b1 b2 g2).mono fun e W' ⟨he, bel⟩ => ?_
  subst he
  exact ⟨_, rfl, _, _, _, [], _, [], hW', trodAll_mk1 (shut_bool Tryz.underlying4 _), (trodAll_cons_mk (Below.trod laidOut (by kernel_rfl) (of_decide_eq_true (by kernel_rfl)) k0 bel lt0) (trodAll_cons_mk (Below.trod laidOut (by kernel_rfl) (of_decide_eq_true (by kernel_rfl)) k1 bel lt1) (trodAll_cons_mk (Below.trod laidOut (by kernel_rfl) (of_decide_eq_true (by kernel_rfl)) k2 bel lt2) (trodAll_cons_mk (shut_int Tryz.underlying3 w3) (trodAll_cons_mk (shut_int Tryz.underlying3 w4) trodAll_mk0))))), rfl, bel.frame _, fun h => by cases h⟩

set_option maxRecDepth 100000 in
theorem lifted (os : Os) (started : os.Started) (H : Type) (enc : TypeId × Value → H) :
    ReturnsInHanded {} Tryz.checked os 3 .any (Rows.modelStepsSpec.pre6 enc Tryz.prog Tryz.f3 Rows.modelStepsRow.domain false) (Rows.modelStepsSpec.post enc Tryz.prog Tryz.f3 false true false false) := by
  refine returnsInHanded_of_change_sized (C := Tryz.checked) own started (by kernel_rfl) Tryz.func3
    (ChangeSpec.witness6 (enc := enc) (C := Tryz.checked) false ⟨#[], #[.agg #[.int .i64 0, .int .i64 0, .int .i64 0, .int .i64 0, .int .i64 0, .int .i64 0, .int .i64 0, .int .i64 0, .slice none 0 0, .slice none 0 0, .slice none 0 0, .slice none 0 0], .agg #[.int .i64 0, .int .i64 0, .slice none 0 0], .slice none 0 0, .int .i64 0, .int .i64 0], []⟩ 8 (by kernel_rfl) (by kernel_rfl) (by kernel_rfl) (by kernel_rfl)) ?_
  intro W base args ds gs before hval hW _ hsz _
  exact contract H enc W base args ds gs before hval hW hsz

theorem over : Rows.modelStepsRow.holds Tryz.pinned (OpenSpec.ofChange Rows.modelStepsSpec) :=
  OpenClaim.holds_of_wide 3 Tryz.f3 rfl rfl rfl rfl rfl rfl rfl ⟨rfl, rfl, rfl, rfl, rfl⟩ rfl rfl rfl rfl rfl (by kernel_rfl) Tryz.func3 (by kernel_rfl)
    (of_decide_eq_true (by kernel_rfl)) (by unfold Func.isWrapper; first | (rw [if_pos (by decide +kernel)]; kernel_rfl) | (rw [if_neg (by decide +kernel)]; exact ⟨rfl, rfl⟩))
    (fun os started H enc _ => lifted os started H enc)

theorem proved : Rows.ModelStepsSaid :=
  over
#print axioms proved
end Go.Proofs.YthliomlmhfjhnaaGreat.modelSteps
