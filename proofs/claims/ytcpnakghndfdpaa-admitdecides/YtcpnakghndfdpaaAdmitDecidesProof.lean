/- AdmitDecides: what becomes of a request, Decide answers as the document's Decide does, of any facts. -/
import Derived.Test.YtcpnakghndfdpaaRows
import Derived.Test.YtcpnakghndfdpaaView
import Derived.Test.YtcpnakghndfdpaaCfgs
import Derived.Test.YtcpnakghndfdpaaHeld
import Derived.Test.YtcpnakghndfdpaaAdF
import Derived.Test.YtcpnakghndfdpaaAdO
import Derived.WalkKit
import Derived.ProofKit
import Derived.OpenShut
import Derived.ChangeOld
import Derived.Below
import Derived.WalkLawsBesides
import Derived.ChangeMaps5
import Derived.Deep.RegionHeld3
namespace Go.Proofs.Ytcpnakghndfdpaa.admitDecides
open Go.ChangeShapes Go.WideShapes Go.ChangeAt Go.RowKit
set_option linter.unusedVariables false
set_option linter.unusedSimpArgs false

theorem own : ownKnob Try.prog.godebug = none := by kernel_rfl
theorem laidOut : laidOutB Try.prog = true := by kernel_rfl


set_option maxHeartbeats 4000000 in
set_option maxRecDepth 20000 in
theorem walk (F0 : Fq) (w : World)  :
    Calls Try.prog 3 #[F0.w] w fun e w' => e = .returned (.bool true) ∧ Below w.heap.size w w' := by
  have hb := below_new (Below.refl w.heap.size w) (.cells F0.cs 24)
  have q0 : Blk 24 (w.alloc (.cells F0.cs 24)) w.heap.size F0.cs := Blk.new 24 w _
  obtain ⟨W0, eW⟩ : ∃ W0, w.alloc (.cells F0.cs 24) = W0 := ⟨_, rfl⟩
  rw [eW] at hb q0
  have EW := hidden_ eW
  clear eW
  have k1 := to_call F0
  have k2 := decide_call F0
  have k3 := refDecide_call F0
  obtain ⟨E, hE⟩ : ∃ E, decideZ F0 = E := ⟨_, rfl⟩
  simp only [hE] at k2 k3
  clear hE
  have EE : (E == E) = true := by simp
  go_enter Try.func3, Try.ntmps3
  go_wp2
  rw [EW.out]
  clear EW
  replace q0 : Blk 24 W0.drew w.heap.size F0.cs := q0
  replace hb : Below w.heap.size w W0.drew := below_drew hb ⟨1, rfl⟩
  obtain ⟨a0, a1, a2, a3, a4, a5, a6, a7, a8⟩ := q0.facts
  go_region_held3 (fun W => W.cell? ⟨w.heap.size, 0, none⟩ = some (.bool F0.t) ∧ W.cell? ⟨w.heap.size, 1, none⟩ = some (.bool F0.u) ∧ W.cell? ⟨w.heap.size, 2, none⟩ = some (.bool F0.m) ∧ W.cell? ⟨w.heap.size, 3, none⟩ = some (.bool F0.d) ∧ W.cell? ⟨w.heap.size, 4, none⟩ = some (.bool F0.a) ∧ W.cell? ⟨w.heap.size, 5, none⟩ = some (.int .i64 F0.k) ∧ W.cell? ⟨w.heap.size, 6, none⟩ = some (.int .i64 F0.q) ∧ W.cell? ⟨w.heap.size, 7, none⟩ = some (.int .i64 F0.n) ∧ W.cell? ⟨w.heap.size, 8, none⟩ = some (.int .i64 F0.r)) (exact ⟨a0, a1, a2, a3, a4, a5, a6, a7, a8⟩) (first
    | (go_at_call 10; refine (k1 _).mono ?_; rintro e W1 ⟨rfl, h⟩; replace q0 := q0.kept h; replace hb := below_then hb h; clear h a0 a1 a2 a3 a4 a5 a6 a7 a8; obtain ⟨a0, a1, a2, a3, a4, a5, a6, a7, a8⟩ := q0.facts)
    | (go_at_call 9; refine (k2 _).mono ?_; rintro e W1 ⟨rfl, h⟩; replace q0 := q0.kept h; replace hb := below_then hb h; clear h a0 a1 a2 a3 a4 a5 a6 a7 a8; obtain ⟨a0, a1, a2, a3, a4, a5, a6, a7, a8⟩ := q0.facts)
    | (go_at_call 11; refine (k3 _).mono ?_; rintro e W1 ⟨rfl, h⟩; replace q0 := q0.kept h; replace hb := below_then hb h; clear h a0 a1 a2 a3 a4 a5 a6 a7 a8; obtain ⟨a0, a1, a2, a3, a4, a5, a6, a7, a8⟩ := q0.facts))
  all_goals
    go_wp2
    go_ret
    exact ⟨rfl, hb⟩

theorem contract (H : Type) (enc : TypeId × Value → H) (W : World) (base : Nat) (args : Array Value) (ds gs : List (DataW H)) (before : List MemPlace)
    (hval0 : ∀ (j : Nat) t v, Try.f3.params[j]? = some t → args[j]? = some v → Value.okWide Try.prog W .any base t v)
    (hW : DataW.Whole enc Try.prog Try.f3.params.toList Rows.admitDecidesSpec.vars false W args.toList ds gs before) :
    Calls Try.prog 3 args W fun e W' => ∃ v, e = .returned v ∧ Rows.admitDecidesSpec.post enc Try.prog Try.f3 false true false false W args v W' := by
  have hval : ∀ (j : Nat) t v, Try.f3.params[j]? = some t → args[j]? = some v → Value.okWide Try.prog W .any base t v := hval0
  have hW' := hW
  obtain ⟨p, q, hA0, hV, rfl, hfz, hnd⟩ := hW
  have hA : DataW.TrodAll enc Try.prog W 0 (fun _ => true) true Try.f3.params.toList args.toList ds p := hA0
  rw [Try.params3] at hA hval
  obtain ⟨v0, vs0, d0, ds0, p0, q0, hargs, rfl, rfl, h0, r0⟩ := trodAll_cons hA
  obtain ⟨rfl, rfl, rfl⟩ := trodAll_nil r0
  obtain rfl : args = #[v0] := by cases args; simp_all
  obtain ⟨rfl, rfl⟩ := trodVars_none hV
  have k0 := h0
  have lt0 : ∀ x ∈ p0, x.block < W.heap.size := by obtain ⟨m, hm⟩ := k0; exact DataW.trod_lt m _ _ _ hm
  obtain ⟨F0, rfl⟩ := open_facts (hval 0 24 v0 rfl rfl) h0
  clear hA0 hval0
  refine (walk F0 W ).mono fun e W' ⟨he, bel⟩ => ?_
  subst he
  exact ⟨_, rfl, _, _, _, [], _, [], hW', trodAll_mk1 (shut_bool Try.underlying4 _), (trodAll_cons_mk (Below.trod laidOut (by kernel_rfl) (of_decide_eq_true (by kernel_rfl)) k0 bel lt0) trodAll_mk0), rfl, bel.frame _, fun h => by cases h⟩

set_option maxRecDepth 100000 in
theorem lifted (os : Os) (started : os.Started) (H : Type) (enc : TypeId × Value → H) :
    ReturnsInHanded {} Try.checked os 3 .any (Rows.admitDecidesSpec.pre6 enc Try.prog Try.f3 Rows.admitDecidesRow.domain false) (Rows.admitDecidesSpec.post enc Try.prog Try.f3 false true false false) := by
  refine returnsInHanded_of_change (C := Try.checked) own started (by kernel_rfl) Try.func3
    (ChangeSpec.witness6 (enc := enc) (C := Try.checked) false ⟨#[], #[.agg #[.bool false, .bool false, .bool false, .bool false, .bool false, .int .i64 0, .int .i64 0, .int .i64 0, .int .i64 0]], []⟩ 8 (by kernel_rfl) (by kernel_rfl) (by kernel_rfl) (by kernel_rfl)) ?_
  intro W base args ds gs before hval hW _ _
  exact contract H enc W base args ds gs before hval hW

theorem over : Rows.admitDecidesRow.holds Try.pinned (OpenSpec.ofChange Rows.admitDecidesSpec) :=
  OpenClaim.holds_of_wide 3 Try.f3 rfl rfl rfl rfl rfl rfl rfl ⟨rfl, rfl, rfl, rfl, rfl⟩ rfl rfl rfl rfl rfl (by kernel_rfl) Try.func3 (by kernel_rfl)
    (of_decide_eq_true (by kernel_rfl)) (by unfold Func.isWrapper; first | (rw [if_pos (by decide +kernel)]; kernel_rfl) | (rw [if_neg (by decide +kernel)]; exact ⟨rfl, rfl⟩))
    (fun os started H enc _ => lifted os started H enc)

theorem proved : Rows.AdmitDecidesSaid :=
  over
#print axioms proved
end Go.Proofs.Ytcpnakghndfdpaa.admitDecides
