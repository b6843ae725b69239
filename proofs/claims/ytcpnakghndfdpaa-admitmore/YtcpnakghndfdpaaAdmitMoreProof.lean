/- AdmitMore: more room, and less that waits, refuses no request that was taken, of any facts: what was told stays told, but for one that the queue or the room had turned away. -/
import Derived.Test.YtcpnakghndfdpaaRows
import Derived.Test.YtcpnakghndfdpaaView
import Derived.Test.YtcpnakghndfdpaaCfgs
import Derived.Test.YtcpnakghndfdpaaHeld
import Derived.Test.YtcpnakghndfdpaaSetN
import Derived.Test.YtcpnakghndfdpaaAdF
import Derived.Test.YtcpnakghndfdpaaAdO
import Derived.Test.YtcpnakghndfdpaaAdW
import Derived.WalkKit
import Derived.ProofKit
import Derived.OpenShut
import Derived.ChangeOld
import Derived.Below
import Derived.WalkLawsBesides
import Derived.ChangeMaps5
import Derived.Deep.RegionHeld3
import Derived.BigRegion
import Derived.Lib.MinMax
namespace Go.Proofs.Ytcpnakghndfdpaa.admitMore
open Go.ChangeShapes Go.WideShapes Go.ChangeAt Go.RowKit
set_option linter.unusedVariables false
set_option linter.unusedSimpArgs false

theorem own : ownKnob Try.prog.godebug = none := by kernel_rfl
theorem laidOut : laidOutB Try.prog = true := by kernel_rfl

theorem decide_more (f : Fq) (room waiting : Int) : decideZ f = decideZ ⟨f.t, f.u, f.m, f.d, f.a, f.k, min f.q waiting, f.n, max f.r room⟩ ∨ (decideZ f = 5 ∧ (decideZ ⟨f.t, f.u, f.m, f.d, f.a, f.k, min f.q waiting, f.n, max f.r room⟩ = 6 ∨ decideZ ⟨f.t, f.u, f.m, f.d, f.a, f.k, min f.q waiting, f.n, max f.r room⟩ = 0)) ∨ (decideZ f = 6 ∧ decideZ ⟨f.t, f.u, f.m, f.d, f.a, f.k, min f.q waiting, f.n, max f.r room⟩ = 0) := by
  obtain ⟨t, u, m, d, a, k, q, n, r⟩ := f
  unfold decideZ
  dsimp only
  split
  · exact .inl rfl
  split
  · exact .inl rfl
  split
  · exact .inl rfl
  split
  · exact .inl rfl
  have h1 : min q waiting ≤ q := by omega
  have h2 : r ≤ max r room := by omega
  generalize min q waiting = q' at *
  generalize max r room = r' at *
  split
  · split
    · exact .inl rfl
    · split
      · exact .inr (.inl ⟨rfl, .inl rfl⟩)
      · exact .inr (.inl ⟨rfl, .inr rfl⟩)
  · rw [if_neg (show ¬ 16 ≤ q' by omega)]
    split
    · split
      · exact .inl rfl
      · exact .inr (.inr ⟨rfl, rfl⟩)
    · rw [if_neg (show ¬ r' < n by omega)]
      exact .inl rfl
theorem more_stores {f : Fq} {w V : World} {g : Nat} (room waiting : Int) (hg : w.heap.size ≤ g) (hb : Below w.heap.size w V) (q : Blk 24 V g f.cs) :
    ∃ Z, (V.setCell ⟨g, 8, none⟩ (.int .i64 (max f.r room))).setCell ⟨g, 6, none⟩ (.int .i64 (min f.q waiting)) = Z ∧ Blk 24 Z g (Fq.cs ⟨f.t, f.u, f.m, f.d, f.a, f.k, min f.q waiting, f.n, max f.r room⟩) ∧ Below w.heap.size w Z :=
  ⟨_, rfl, (q.set 8 _).set 6 _, (hb.setCell hg _).setCell hg _⟩

set_option maxHeartbeats 4000000 in
set_option maxRecDepth 20000 in
theorem walk (F0 : Fq) (a1 : Int) (a2 : Int) (w : World)  (w1 : (Lit.int .i64 a1).wf = true) (w2 : (Lit.int .i64 a2).wf = true) :
    Calls Try.prog 6 #[F0.w, .int .i64 a1, .int .i64 a2] w fun e w' => e = .returned (.bool true) ∧ Below w.heap.size w w' := by
  have hb := below_new (Below.refl w.heap.size w) (.cells F0.cs 24)
  have q0 : Blk 24 (w.alloc (.cells F0.cs 24)) w.heap.size F0.cs := Blk.new 24 w _
  have k1 := to_call F0
  have k2 := decide_call F0
  have k3 := to_call ⟨F0.t, F0.u, F0.m, F0.d, F0.a, F0.k, min F0.q a2, F0.n, max F0.r a1⟩
  have k4 := decide_call ⟨F0.t, F0.u, F0.m, F0.d, F0.a, F0.k, min F0.q a2, F0.n, max F0.r a1⟩
  have hl := decide_more F0 a1 a2
  obtain ⟨A, hA⟩ : ∃ A, decideZ F0 = A := ⟨_, rfl⟩
  obtain ⟨B, hB⟩ : ∃ B, decideZ ⟨F0.t, F0.u, F0.m, F0.d, F0.a, F0.k, min F0.q a2, F0.n, max F0.r a1⟩ = B := ⟨_, rfl⟩
  simp only [hA, hB] at k2 k4 hl
  clear hA hB
  have HL := hidden_ hl
  clear hl
  go_enter Try.func6, Try.ntmps6
  go_wp2_with (first
    | (go_at_call 16; refine (works_call _).mono ?_; rintro e W1 ⟨rfl, h⟩; replace q0 := q0.kept h; replace hb := below_then hb h; clear h; obtain ⟨a0, b1, b2, a3, a4, a5, a6, a7, a8⟩ := q0.facts)
    | (go_at_call 10; refine (k1 _).mono ?_; rintro e W1 ⟨rfl, h⟩; clear k1; replace q0 := q0.kept h; replace hb := below_then hb h; clear h a0 b1 b2 a3 a4 a5 a6 a7 a8)
    | (go_at_call 9; refine (k2 _).mono ?_; rintro e W2 ⟨rfl, h⟩; clear k2; replace q0 := q0.kept h; replace hb := below_new (below_then hb h) (.cells F0.cs 24); clear h; obtain ⟨a0, b1, b2, a3, a4, a5, a6, a7, a8⟩ := q0.facts; have lt := q0.lt; replace q0 := q0.kept (below_new (Below.refl _ _) (.cells F0.cs 24)); have q1 := Blk.new 24 W2 F0.cs; have hg : w.heap.size ≤ W2.heap.size := Nat.le_of_lt lt; obtain ⟨V, eV⟩ : ∃ V, W2.alloc (.cells F0.cs 24) = V := ⟨_, rfl⟩; rw [eV] at hb q0 q1; have EV := hidden_ eV; clear eV))
  rw [EV.out]
  clear EV a0 b1 b2 a3 a4 a5 a6 a7 a8
  obtain ⟨g, eg⟩ : ∃ g, W2.heap.size = g := ⟨_, rfl⟩
  simp only [eg] at *
  obtain ⟨Z, eZ, qZ, bZ⟩ := more_stores a1 a2 hg hb q1
  have hZ := hidden_ (And.intro qZ bZ)
  have EZ := hidden_ eZ
  clear qZ bZ eZ
  obtain ⟨a0, b1, b2, a3, a4, a5, a6, a7, a8⟩ := q0.facts
  obtain ⟨x0, x1, x2, x3, x4, x5, x6, x7, x8⟩ := q1.facts
  have f6 := q1.open_ 6
  have f8 := q1.open_ 8
  have ne : w.heap.size ≠ g := by omega
  go_region
  rw [EZ.out]
  clear EZ q0 q1 a0 b1 b2 a3 a4 a5 a6 a7 a8 x0 x1 x2 x3 x4 x5 x6 x7 x8 f6 f8 ne lt hb
  obtain ⟨qZ, hb⟩ := hZ.out
  replace hb : Below w.heap.size w Z.drew := below_drew hb ⟨1, rfl⟩
  obtain ⟨x0, x1, x2, x3, x4, x5, x6, x7, x8⟩ := qZ.facts
  clear hZ qZ
  have BB : (B == B) = true := by simp
  have hl := HL.out
  clear HL
  rcases hl with rfl | ⟨rfl, rfl | rfl⟩ | ⟨rfl, rfl⟩
  all_goals
    go_wp2_with (first
      | (go_at_call 10; refine (k3 _).mono ?_; rintro e W3 ⟨rfl, h⟩; clear k3; replace hb := below_then hb h; clear h x0 x1 x2 x3 x4 x5 x6 x7 x8)
      | (go_at_call 9; refine (k4 _).mono ?_; rintro e W4 ⟨rfl, h⟩; clear k4; replace hb := below_then hb h; clear h))
    go_ret
    exact ⟨rfl, hb⟩

theorem contract (H : Type) (enc : TypeId × Value → H) (W : World) (base : Nat) (args : Array Value) (ds gs : List (DataW H)) (before : List MemPlace)
    (hval0 : ∀ (j : Nat) t v, Try.f6.params[j]? = some t → args[j]? = some v → Value.okWide Try.prog W .any base t v)
    (hW : DataW.Whole enc Try.prog Try.f6.params.toList Rows.admitMoreSpec.vars false W args.toList ds gs before) :
    Calls Try.prog 6 args W fun e W' => ∃ v, e = .returned v ∧ Rows.admitMoreSpec.post enc Try.prog Try.f6 false true false false W args v W' := by
  have hval : ∀ (j : Nat) t v, Try.f6.params[j]? = some t → args[j]? = some v → Value.okWide Try.prog W .any base t v := hval0
  have hW' := hW
  obtain ⟨p, q, hA0, hV, rfl, hfz, hnd⟩ := hW
  have hA : DataW.TrodAll enc Try.prog W 0 (fun _ => true) true Try.f6.params.toList args.toList ds p := hA0
  rw [Try.params6] at hA hval
  obtain ⟨v0, vs0, d0, ds0, p0, q0, hargs, rfl, rfl, h0, r0⟩ := trodAll_cons hA
  obtain ⟨v1, vs1, d1, ds1, p1, q1, rfl, rfl, rfl, h1, r1⟩ := trodAll_cons r0
  obtain ⟨v2, vs2, d2, ds2, p2, q2, rfl, rfl, rfl, h2, r2⟩ := trodAll_cons r1
  obtain ⟨rfl, rfl, rfl⟩ := trodAll_nil r2
  obtain rfl : args = #[v0, v1, v2] := by cases args; simp_all
  obtain ⟨rfl, rfl⟩ := trodVars_none hV
  have k0 := h0
  have lt0 : ∀ x ∈ p0, x.block < W.heap.size := by obtain ⟨m, hm⟩ := k0; exact DataW.trod_lt m _ _ _ hm
  obtain ⟨F0, rfl⟩ := open_facts (hval 0 24 v0 rfl rfl) h0
  obtain ⟨a1, rfl, rfl, rfl, w1⟩ := open_int Try.underlying3 (hval 1 3 v1 rfl rfl) h1
  obtain ⟨a2, rfl, rfl, rfl, w2⟩ := open_int Try.underlying3 (hval 2 3 v2 rfl rfl) h2
  clear hA0 hval0
  refine (walk F0 a1 a2 W  w1 w2).mono fun e W' ⟨he, bel⟩ => ?_
  subst he
  exact ⟨_, rfl, _, _, _, [], _, [], hW', trodAll_mk1 (shut_bool Try.underlying4 _), (trodAll_cons_mk (Below.trod laidOut (by kernel_rfl) (of_decide_eq_true (by kernel_rfl)) k0 bel lt0) (trodAll_cons_mk (shut_int Try.underlying3 w1) (trodAll_cons_mk (shut_int Try.underlying3 w2) trodAll_mk0))), rfl, bel.frame _, fun h => by cases h⟩

set_option maxRecDepth 100000 in
theorem lifted (os : Os) (started : os.Started) (H : Type) (enc : TypeId × Value → H) :
    ReturnsInHanded {} Try.checked os 6 .any (Rows.admitMoreSpec.pre6 enc Try.prog Try.f6 Rows.admitMoreRow.domain false) (Rows.admitMoreSpec.post enc Try.prog Try.f6 false true false false) := by
  refine returnsInHanded_of_change (C := Try.checked) own started (by kernel_rfl) Try.func6
    (ChangeSpec.witness6 (enc := enc) (C := Try.checked) false ⟨#[], #[.agg #[.bool false, .bool false, .bool false, .bool false, .bool false, .int .i64 0, .int .i64 0, .int .i64 0, .int .i64 0], .int .i64 0, .int .i64 0], []⟩ 8 (by kernel_rfl) (by kernel_rfl) (by kernel_rfl) (by kernel_rfl)) ?_
  intro W base args ds gs before hval hW _ _
  exact contract H enc W base args ds gs before hval hW

theorem over : Rows.admitMoreRow.holds Try.pinned (OpenSpec.ofChange Rows.admitMoreSpec) :=
  OpenClaim.holds_of_wide 6 Try.f6 rfl rfl rfl rfl rfl rfl rfl ⟨rfl, rfl, rfl, rfl, rfl⟩ rfl rfl rfl rfl rfl (by kernel_rfl) Try.func6 (by kernel_rfl)
    (of_decide_eq_true (by kernel_rfl)) (by unfold Func.isWrapper; first | (rw [if_pos (by decide +kernel)]; kernel_rfl) | (rw [if_neg (by decide +kernel)]; exact ⟨rfl, rfl⟩))
    (fun os started H enc _ => lifted os started H enc)

theorem proved : Rows.AdmitMoreSaid :=
  over
#print axioms proved
end Go.Proofs.Ytcpnakghndfdpaa.admitMore
