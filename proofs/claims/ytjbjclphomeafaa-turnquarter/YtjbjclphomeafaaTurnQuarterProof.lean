/- The examples come out as they should, and for every two numbers, each brought within 32 bits, the pair turned by a quarter of a turn, and any whole turns more, is the second with its sign turned and the first; turned by a half it is both with their signs turned. -/
import Derived.Test.YtjbjclphomeafaaRows
import Derived.Test.YtjbjclphomeafaaSat
import Derived.Test.YtjbjclphomeafaaView
import Derived.Test.YtjbjclphomeafaaOwn
import Derived.Test.YtjbjclphomeafaaSame
import Derived.Test.YtjbjclphomeafaaWorks
import Derived.Test.YtjbjclphomeafaaTabs
import Derived.Test.YtjbjclphomeafaaPair
import Derived.Test.YtjbjclphomeafaaTurn
import Derived.Test.YtjbjclphomeafaaTurns
import Derived.Test.YtjbjclphomeafaaHeads
import Derived.Test.YtjbjclphomeafaaLooks
import Derived.WalkKit
import Derived.ProofKit
import Derived.OpenShut
import Derived.ChangeOld
import Derived.Below
import Derived.WalkLawsBesides
namespace Go.Proofs.Ytjbjclphomeafaa.turnQuarter
open Go.ChangeShapes Go.WideShapes Go.ChangeAt Go.RowKit
set_option linter.unusedVariables false
set_option linter.unusedSimpArgs false

theorem own : ownKnob Try.prog.godebug = none := by kernel_rfl
theorem laidOut : laidOutB Try.prog = true := by kernel_rfl

theorem rest50 (x : Int) : ∃ M : Nat, M < 50 ∧ (IntKind.u64.wrap x).tmod 50 = (M : Int) ∧ IntKind.u64.wrap x % 50 = (M : Int) := by
  have b : 0 ≤ IntKind.u64.wrap x := by rw [IntKind.wrap_u64]; omega
  generalize IntKind.u64.wrap x = U at *
  exact ⟨(U % 50).toNat, by omega, by rw [Int.tmod_eq_emod_of_nonneg b]; omega, by omega⟩

theorem part_bounds (x : Int) : -2147483647 ≤ x.tmod 2147483648 ∧ x.tmod 2147483648 ≤ 2147483647 := by
  rw [Int.tmod_eq_emod]
  split <;> omega

theorem two_cells {w : World} {a : Option Addr} {u v : Int} (h : Reads .i64 w a 2 [u, v]) : ∃ x, a = some x ∧ w.cell? x = some (.int .i64 u) ∧ w.cell? ⟨x.block, x.off + 1, none⟩ = some (.int .i64 v) := by
  obtain ⟨x, rfl⟩ := h.some_ (by decide)
  have c0 := h.cell x rfl 0 (by decide)
  have c1 := h.cell x rfl 1 (by decide)
  rw [Addr.add_zero'] at c0
  rw [Addr.add_succ' x 0] at c1
  exact ⟨x, rfl, c0, c1⟩


set_option maxHeartbeats 1000000 in
theorem walk (a0 : Int) (a1 : Int) (a2 : Int) (w : World) (w0 : (Lit.int .i64 a0).wf = true) (w1 : (Lit.int .i64 a1).wf = true) (w2 : (Lit.int .i64 a2).wf = true) :
    Calls Try.prog 7 #[.int .i64 a0, .int .i64 a1, .int .i64 a2] w fun e w' => e = .returned (.bool true) ∧ Below w.heap.size w w' := by
  obtain ⟨X, eX⟩ : ∃ X, a0.tmod 2147483648 = X := ⟨_, rfl⟩
  obtain ⟨Y, eY⟩ : ∃ Y, a1.tmod 2147483648 = Y := ⟨_, rfl⟩
  have bX := part_bounds a0
  have bY := part_bounds a1
  rw [eX] at bX
  rw [eY] at bY
  obtain ⟨M, hM, eM, eM'⟩ := rest50 a2
  have wX : (Lit.int .i64 X).wf = true := WalkArith.wf_i64 ⟨by omega, by omega⟩
  have wY : (Lit.int .i64 Y).wf = true := WalkArith.wf_i64 ⟨by omega, by omega⟩
  have k1 : ∀ W x, Reads .i64 W (some x) 2 [X, Y] → Calls Try.prog 8 #[.slice (some x) 2 2, .int .i64 (4 + 16 * (M : Int))] W fun e w' => (∃ a c, e = .returned (.tuple #[.slice a 2 c, .int .i64 0]) ∧ Reads .i64 w' a 2 [-Y, X]) ∧ Below W.heap.size W w' := by
    intro W x h
    have := turn_fine (some x) 2 2 _ (4 + 16 * (M : Int)) W h (by decide) (by omega) (by decide)
    rw [quarter X Y M bX bY] at this
    exact this.mono fun e w' ⟨⟨a, c, he, hr, _⟩, hw⟩ => ⟨⟨a, c, he, hr⟩, hw⟩
  have k2 : ∀ W x, Reads .i64 W (some x) 2 [X, Y] → Calls Try.prog 8 #[.slice (some x) 2 2, .int .i64 (8 + 16 * (M : Int))] W fun e w' => (∃ a c, e = .returned (.tuple #[.slice a 2 c, .int .i64 0]) ∧ Reads .i64 w' a 2 [-X, -Y]) ∧ Below W.heap.size W w' := by
    intro W x h
    have := turn_fine (some x) 2 2 _ (8 + 16 * (M : Int)) W h (by decide) (by omega) (by decide)
    rw [half X Y M bX bY] at this
    exact this.mono fun e w' ⟨⟨a, c, he, hr, _⟩, hw⟩ => ⟨⟨a, c, he, hr⟩, hw⟩
  obtain ⟨P4, e4⟩ : ∃ P, 4 + 16 * (M : Int) = P := ⟨_, rfl⟩
  obtain ⟨P8, e8⟩ : ∃ P, 8 + 16 * (M : Int) = P := ⟨_, rfl⟩
  rw [e4] at k1
  rw [e8] at k2
  obtain ⟨x0, x1⟩ := bX
  obtain ⟨y0, y1⟩ := bY
  go_enter Try.func7, Try.ntmps7
  go_wp2_with (first
    | (go_at_call 13; refine (works_call _).mono ?_; rintro e W1 ⟨rfl, hb1⟩)
    | (go_at_call_of 8 P4; refine (k1 _ _ (lit2 .i64 _ 2 _ (by simp) X Y wX wY)).mono ?_; rintro e W2 ⟨⟨p2, q2, rfl, r2⟩, hb2⟩; replace hb2 := below_then (below_new hb1 _) hb2)
    | (go_at_call_of 8 P8; refine (k2 _ _ (lit2 .i64 _ 2 _ (by simp) X Y wX wY)).mono ?_; rintro e W3 ⟨⟨p3, q3, rfl, r3⟩, hb3⟩; replace r2 := r2.below (below_then (below_new (Below.refl _ _) _) hb3); replace hb3 := below_then (below_new hb2 _) hb3; obtain ⟨u2, rfl, c20, c21⟩ := two_cells r2; obtain ⟨u3, rfl, c30, c31⟩ := two_cells r3; clear r2 r3))
  go_ret
  exact ⟨rfl, by assumption⟩

theorem contract (H : Type) (enc : TypeId × Value → H) (W : World) (base : Nat) (args : Array Value) (ds gs : List (DataW H)) (before : List MemPlace)
    (hval0 : ∀ (j : Nat) t v, Try.f7.params[j]? = some t → args[j]? = some v → Value.okWide Try.prog W .any base t v)
    (hW : DataW.Whole enc Try.prog Try.f7.params.toList Rows.turnQuarterSpec.vars false W args.toList ds gs before) :
    Calls Try.prog 7 args W fun e W' => ∃ v, e = .returned v ∧ Rows.turnQuarterSpec.post enc Try.prog Try.f7 false true false false W args v W' := by
  have hval : ∀ (j : Nat) t v, Try.f7.params[j]? = some t → args[j]? = some v → Value.okWide Try.prog W .any base t v := hval0
  have hW' := hW
  obtain ⟨p, q, hA0, hV, rfl, hfz, hnd⟩ := hW
  have hA : DataW.TrodAll enc Try.prog W 0 (fun _ => true) true Try.f7.params.toList args.toList ds p := hA0
  rw [Try.params7] at hA hval
  obtain ⟨v0, vs0, d0, ds0, p0, q0, hargs, rfl, rfl, h0, r0⟩ := trodAll_cons hA
  obtain ⟨v1, vs1, d1, ds1, p1, q1, rfl, rfl, rfl, h1, r1⟩ := trodAll_cons r0
  obtain ⟨v2, vs2, d2, ds2, p2, q2, rfl, rfl, rfl, h2, r2⟩ := trodAll_cons r1
  obtain ⟨rfl, rfl, rfl⟩ := trodAll_nil r2
  obtain rfl : args = #[v0, v1, v2] := by cases args; simp_all
  obtain ⟨rfl, rfl⟩ := trodVars_none hV
  obtain ⟨a0, rfl, rfl, rfl, w0⟩ := open_int Try.underlying2 (hval 0 2 v0 rfl rfl) h0
  obtain ⟨a1, rfl, rfl, rfl, w1⟩ := open_int Try.underlying2 (hval 1 2 v1 rfl rfl) h1
  obtain ⟨a2, rfl, rfl, rfl, w2⟩ := open_int Try.underlying3 (hval 2 3 v2 rfl rfl) h2
  clear hA0 hval0
  refine (walk a0 a1 a2 W w0 w1 w2).mono fun e W' ⟨he, bel⟩ => ?_
  subst he
  exact ⟨_, rfl, _, _, _, [], _, [], hW', trodAll_mk1 (shut_bool Try.underlying4 _), (trodAll_cons_mk (shut_int Try.underlying2 w0) (trodAll_cons_mk (shut_int Try.underlying2 w1) (trodAll_cons_mk (shut_int Try.underlying3 w2) trodAll_mk0))), rfl, bel.frame _, fun h => by cases h⟩

set_option maxRecDepth 100000 in
theorem lifted (os : Os) (started : os.Started) (H : Type) (enc : TypeId × Value → H) :
    ReturnsInHanded {} Try.checked os 7 .any (Rows.turnQuarterSpec.pre6 enc Try.prog Try.f7 Rows.turnQuarterRow.domain false) (Rows.turnQuarterSpec.post enc Try.prog Try.f7 false true false false) := by
  refine returnsInHanded_of_change (C := Try.checked) own started (by kernel_rfl) Try.func7
    (ChangeSpec.witness6 (enc := enc) (C := Try.checked) false ⟨#[], #[.int .i64 0, .int .i64 0, .int .i64 0], []⟩ 8 (by kernel_rfl) (by kernel_rfl) (by kernel_rfl) (by kernel_rfl)) ?_
  intro W base args ds gs before hval hW _ _
  exact contract H enc W base args ds gs before hval hW

theorem over : Rows.turnQuarterRow.holds Try.pinned (OpenSpec.ofChange Rows.turnQuarterSpec) :=
  OpenClaim.holds_of_wide 7 Try.f7 rfl rfl rfl rfl rfl rfl rfl ⟨rfl, rfl, rfl, rfl, rfl⟩ rfl rfl rfl rfl rfl (by kernel_rfl) Try.func7 (by kernel_rfl)
    (of_decide_eq_true (by kernel_rfl)) (by unfold Func.isWrapper; first | (rw [if_pos (by decide +kernel)]; kernel_rfl) | (rw [if_neg (by decide +kernel)]; exact ⟨rfl, rfl⟩))
    (fun os started H enc _ => lifted os started H enc)

theorem proved : Rows.TurnQuarterSaid :=
  over
#print axioms proved
end Go.Proofs.Ytjbjclphomeafaa.turnQuarter
