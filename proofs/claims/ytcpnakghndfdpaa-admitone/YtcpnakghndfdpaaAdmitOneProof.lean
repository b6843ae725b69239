/- AdmitOne: with all else well each fact of a request by itself has its own outcome; with two of them wrong, the outcome of the one that is named first. -/
import Derived.Test.YtcpnakghndfdpaaRows
import Derived.Test.YtcpnakghndfdpaaView
import Derived.Test.YtcpnakghndfdpaaCfgs
import Derived.Test.YtcpnakghndfdpaaHeld
import Derived.Test.YtcpnakghndfdpaaSetN
import Derived.Test.YtcpnakghndfdpaaAdF
import Derived.Test.YtcpnakghndfdpaaAdO
import Derived.Test.YtcpnakghndfdpaaAdW
import Derived.Test.YtcpnakghndfdpaaAdV
import Derived.WalkKit
import Derived.ProofKit
import Derived.OpenShut
import Derived.ChangeOld
import Derived.Below
import Derived.WalkLawsBesides
import Derived.ChangeMaps5
import Derived.Deep.RegionHeld3
import Derived.BigRegion
import Derived.Lib.MinMax
namespace Go.Proofs.Ytcpnakghndfdpaa.admitOne
open Go.ChangeShapes Go.WideShapes Go.ChangeAt Go.RowKit
set_option linter.unusedVariables false
set_option linter.unusedSimpArgs false

theorem own : ownKnob Try.prog.godebug = none := by kernel_rfl
theorem laidOut : laidOutB Try.prog = true := by kernel_rfl

abbrev oneF : Fq := ⟨true, false, true, false, true, 0, 0, 2, 2⟩
abbrev wantL : Array Value := #[.int .i64 1, .int .i64 1, .int .i64 2, .int .i64 2, .int .i64 8, .int .i64 4, .int .i64 5, .int .i64 6]
theorem one_law (X Y : Int) (x0 : 0 ≤ X) (x1 : X < 8) (y0 : 0 ≤ Y) (y1 : Y < 8) : wantL[(min X Y).toNat]? = some (.int .i64 (decideZ (worseF (worseF oneF X) Y))) := by
  have hX : X = 0 ∨ X = 1 ∨ X = 2 ∨ X = 3 ∨ X = 4 ∨ X = 5 ∨ X = 6 ∨ X = 7 := by omega
  have hY : Y = 0 ∨ Y = 1 ∨ Y = 2 ∨ Y = 3 ∨ Y = 4 ∨ Y = 5 ∨ Y = 6 ∨ Y = 7 := by omega
  rcases hX with rfl | rfl | rfl | rfl | rfl | rfl | rfl | rfl <;> rcases hY with rfl | rfl | rfl | rfl | rfl | rfl | rfl | rfl <;> rfl
theorem eighth (a : Int) : ∃ X, wrap64 ((IntKind.u64.wrap a).tmod 8) = X ∧ 0 ≤ X ∧ X < 8 := by
  refine ⟨_, rfl, ?_⟩
  have e : IntKind.u64.wrap a = a % 18446744073709551616 := rfl
  rw [e, Int.tmod_eq_emod_of_nonneg (by omega)]
  have h : wrap64 (a % 18446744073709551616 % 8) = a % 18446744073709551616 % 8 := by
    unfold wrap64; omega
  rw [h]
  omega

set_option maxHeartbeats 4000000 in
set_option maxRecDepth 20000 in
theorem walk (a0 : Int) (a1 : Int) (w : World) (w0 : (Lit.int .i64 a0).wf = true) (w1 : (Lit.int .i64 a1).wf = true) :
    Calls Try.prog 8 #[.int .i64 a0, .int .i64 a1] w fun e w' => e = .returned (.bool true) ∧ Below w.heap.size w w' := by
  have hb := Below.refl w.heap.size w
  obtain ⟨X, hX, x0, x1⟩ := eighth a0
  obtain ⟨Y, hY, y0, y1⟩ := eighth a1
  have law := one_law X Y x0 x1 y0 y1
  have v0 := worse_call oneF X
  have v1 := worse_call (worseF oneF X) Y
  have k1 := to_call (worseF (worseF oneF X) Y)
  have k2 := decide_call (worseF (worseF oneF X) Y)
  obtain ⟨F, hF⟩ : ∃ F, worseF (worseF oneF X) Y = F := ⟨_, rfl⟩
  obtain ⟨G, hG⟩ : ∃ G, worseF oneF X = G := ⟨_, rfl⟩
  rw [hF] at law v1 k1 k2
  rw [hG] at v0 v1
  clear hF hG
  obtain ⟨E, hE⟩ : ∃ E, decideZ F = E := ⟨_, rfl⟩
  simp only [hE] at law k2
  clear hE
  obtain ⟨M, hM⟩ : ∃ M, min X Y = M := ⟨_, rfl⟩
  have m0 : 0 ≤ M := by omega
  have m1 : M < 8 := by omega
  rw [hM] at law
  clear x0 x1 y0 y1
  have HL := hidden_ law
  clear law
  go_enter Try.func8, Try.ntmps8
  go_wp2_with (first
    | (go_at_call 16; refine (works_call _).mono ?_; rintro e W1 ⟨rfl, h⟩; replace hb := below_new (below_then hb h) (.cells wantL 22); have q0 := Blk.new 22 W1 wantL; clear h)
    | (go_at_call 17; refine (v0 _).mono ?_; rintro e W2 ⟨rfl, h⟩; clear v0; replace q0 := q0.kept h; replace hb := below_then hb h; clear h)
    | (go_at_call 17; refine (v1 _).mono ?_; rintro e W3 ⟨rfl, h⟩; clear v1; replace q0 := (q0.kept h).kept (below_new (Below.refl _ _) (.cells F.cs 24)); replace hb := below_new (below_then hb h) (.cells F.cs 24); have q1 := Blk.new 24 W3 F.cs; clear h; obtain ⟨V, eV⟩ : ∃ V, W3.alloc (.cells F.cs 24) = V := ⟨_, rfl⟩; rw [eV] at hb q0 q1; have EV := hidden_ eV; clear eV))
  rw [EV.out]
  clear EV
  obtain ⟨g, eg⟩ : ∃ g, W3.heap.size = g := ⟨_, rfl⟩
  obtain ⟨p, ep⟩ : ∃ p, W1.heap.size = p := ⟨_, rfl⟩
  simp only [eg, ep] at *
  replace q0 : Blk 22 V.drew p wantL := q0
  replace q1 : Blk 24 V.drew g F.cs := q1
  replace hb : Below w.heap.size w V.drew := below_drew hb ⟨1, rfl⟩
  obtain ⟨a0, b1, b2, a3, a4, a5, a6, a7, a8⟩ := q1.facts
  have cM : V.drew.cell? ⟨p, M.toNat, none⟩ = some (.int .i64 E) := q0.cell M.toNat HL.out
  have EE : (E == E) = true := by simp
  have m2 : ¬ M < 0 := by omega
  go_region_held3 (fun W => W.cell? ⟨p, M.toNat, none⟩ = some (.int .i64 E) ∧ W.cell? ⟨g, 0, none⟩ = some (.bool F.t) ∧ W.cell? ⟨g, 1, none⟩ = some (.bool F.u) ∧ W.cell? ⟨g, 2, none⟩ = some (.bool F.m) ∧ W.cell? ⟨g, 3, none⟩ = some (.bool F.d) ∧ W.cell? ⟨g, 4, none⟩ = some (.bool F.a) ∧ W.cell? ⟨g, 5, none⟩ = some (.int .i64 F.k) ∧ W.cell? ⟨g, 6, none⟩ = some (.int .i64 F.q) ∧ W.cell? ⟨g, 7, none⟩ = some (.int .i64 F.n) ∧ W.cell? ⟨g, 8, none⟩ = some (.int .i64 F.r)) (exact ⟨cM, a0, b1, b2, a3, a4, a5, a6, a7, a8⟩) (first
    | (go_at_call 10; refine (k1 _).mono ?_; rintro e W4 ⟨rfl, h⟩; replace q0 := q0.kept h; replace q1 := q1.kept h; replace hb := below_then hb h; clear h cM a0 b1 b2 a3 a4 a5 a6 a7 a8; obtain ⟨a0, b1, b2, a3, a4, a5, a6, a7, a8⟩ := q1.facts; have cM := q0.cell M.toNat HL.out)
    | (go_at_call 9; refine (k2 _).mono ?_; rintro e W5 ⟨rfl, h⟩; replace q0 := q0.kept h; replace q1 := q1.kept h; replace hb := below_then hb h; clear h cM a0 b1 b2 a3 a4 a5 a6 a7 a8; obtain ⟨a0, b1, b2, a3, a4, a5, a6, a7, a8⟩ := q1.facts; have cM := q0.cell M.toNat HL.out))
  all_goals
    go_wp2
    go_ret
    exact ⟨rfl, hb⟩

theorem contract (H : Type) (enc : TypeId × Value → H) (W : World) (base : Nat) (args : Array Value) (ds gs : List (DataW H)) (before : List MemPlace)
    (hval0 : ∀ (j : Nat) t v, Try.f8.params[j]? = some t → args[j]? = some v → Value.okWide Try.prog W .any base t v)
    (hW : DataW.Whole enc Try.prog Try.f8.params.toList Rows.admitOneSpec.vars false W args.toList ds gs before) :
    Calls Try.prog 8 args W fun e W' => ∃ v, e = .returned v ∧ Rows.admitOneSpec.post enc Try.prog Try.f8 false true false false W args v W' := by
  have hval : ∀ (j : Nat) t v, Try.f8.params[j]? = some t → args[j]? = some v → Value.okWide Try.prog W .any base t v := hval0
  have hW' := hW
  obtain ⟨p, q, hA0, hV, rfl, hfz, hnd⟩ := hW
  have hA : DataW.TrodAll enc Try.prog W 0 (fun _ => true) true Try.f8.params.toList args.toList ds p := hA0
  rw [Try.params8] at hA hval
  obtain ⟨v0, vs0, d0, ds0, p0, q0, hargs, rfl, rfl, h0, r0⟩ := trodAll_cons hA
  obtain ⟨v1, vs1, d1, ds1, p1, q1, rfl, rfl, rfl, h1, r1⟩ := trodAll_cons r0
  obtain ⟨rfl, rfl, rfl⟩ := trodAll_nil r1
  obtain rfl : args = #[v0, v1] := by cases args; simp_all
  obtain ⟨rfl, rfl⟩ := trodVars_none hV
  obtain ⟨a0, rfl, rfl, rfl, w0⟩ := open_int Try.underlying3 (hval 0 3 v0 rfl rfl) h0
  obtain ⟨a1, rfl, rfl, rfl, w1⟩ := open_int Try.underlying3 (hval 1 3 v1 rfl rfl) h1
  clear hA0 hval0
  refine (walk a0 a1 W w0 w1).mono fun e W' ⟨he, bel⟩ => ?_
  subst he
  exact ⟨_, rfl, _, _, _, [], _, [], hW', trodAll_mk1 (shut_bool Try.underlying4 _), (trodAll_cons_mk (shut_int Try.underlying3 w0) (trodAll_cons_mk (shut_int Try.underlying3 w1) trodAll_mk0)), rfl, bel.frame _, fun h => by cases h⟩

set_option maxRecDepth 100000 in
theorem lifted (os : Os) (started : os.Started) (H : Type) (enc : TypeId × Value → H) :
    ReturnsInHanded {} Try.checked os 8 .any (Rows.admitOneSpec.pre6 enc Try.prog Try.f8 Rows.admitOneRow.domain false) (Rows.admitOneSpec.post enc Try.prog Try.f8 false true false false) := by
  refine returnsInHanded_of_change (C := Try.checked) own started (by kernel_rfl) Try.func8
    (ChangeSpec.witness6 (enc := enc) (C := Try.checked) false ⟨#[], #[.int .i64 0, .int .i64 0], []⟩ 8 (by kernel_rfl) (by kernel_rfl) (by kernel_rfl) (by kernel_rfl)) ?_
  intro W base args ds gs before hval hW _ _
  exact contract H enc W base args ds gs before hval hW

theorem over : Rows.admitOneRow.holds Try.pinned (OpenSpec.ofChange Rows.admitOneSpec) :=
  OpenClaim.holds_of_wide 8 Try.f8 rfl rfl rfl rfl rfl rfl rfl ⟨rfl, rfl, rfl, rfl, rfl⟩ rfl rfl rfl rfl rfl (by kernel_rfl) Try.func8 (by kernel_rfl)
    (of_decide_eq_true (by kernel_rfl)) (by unfold Func.isWrapper; first | (rw [if_pos (by decide +kernel)]; kernel_rfl) | (rw [if_neg (by decide +kernel)]; exact ⟨rfl, rfl⟩))
    (fun os started H enc _ => lifted os started H enc)

theorem proved : Rows.AdmitOneSaid :=
  over
#print axioms proved
end Go.Proofs.Ytcpnakghndfdpaa.admitOne
