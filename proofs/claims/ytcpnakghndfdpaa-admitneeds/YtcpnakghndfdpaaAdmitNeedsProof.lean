/- AdmitNeeds: how many pages an answer needs at most, Need answers as the document's Need does, of any configuration and any ask whose prompt holds at most a thousand tokens, and weights of at most two to the fortieth. -/
import Derived.Test.YtcpnakghndfdpaaRows
import Derived.Test.YtcpnakghndfdpaaView
import Derived.Test.YtcpnakghndfdpaaCfgs
import Derived.Test.YtcpnakghndfdpaaHeld
import Derived.Test.YtcpnakghndfdpaaOwn
import Derived.Test.YtcpnakghndfdpaaSteps
import Derived.Test.YtcpnakghndfdpaaRefTop
import Derived.Test.YtcpnakghndfdpaaSetN
import Derived.Test.YtcpnakghndfdpaaAskA
import Derived.Test.YtcpnakghndfdpaaAskO
import Derived.Test.YtcpnakghndfdpaaOpenCfg
import Derived.Test.YtcpnakghndfdpaaAdZ
import Derived.Test.YtcpnakghndfdpaaAdN
import Derived.Test.YtcpnakghndfdpaaAdR
import Derived.WalkKit
import Derived.ProofKit
import Derived.OpenShut
import Derived.ChangeOld
import Derived.Below
import Derived.WalkLawsBesides
import Derived.ChangeMaps5
import Derived.Deep.RegionHeld3
namespace Go.Proofs.Ytcpnakghndfdpaa.admitNeeds
open Go.ChangeShapes Go.WideShapes Go.ChangeAt Go.RowKit
set_option linter.unusedVariables false
set_option linter.unusedSimpArgs false

theorem own : ownKnob Try.prog.godebug = none := by kernel_rfl
theorem laidOut : laidOutB Try.prog = true := by kernel_rfl

abbrev askWith (q : Aq) (a : Option Addr) (c : Nat) : Aq := ⟨q.k, a, q.n, c, q.L, q.S, q.sd, q.T, q.H, q.B, q.E⟩
theorem ask_set1 (q : Aq) (p : Option Addr) (c : Nat) : q.cs.setIfInBounds 1 (.slice p q.n c) = (askWith q p c).cs := rfl
theorem need_store {c : Cq} {q : Aq} {w W1 : World} {B : Nat} {p : Option Addr} {m : Nat} {zs : List Int} (q0 : Blk 31 W1 B c.cs) (q1 : Blk 36 W1 (B + 1) q.cs) (r : Reads .i64 W1 p q.n zs) (hB : w.heap.size ≤ B) (hb : Below w.heap.size w W1) :
    ∃ V, W1.setCell ⟨B + 1, 1, none⟩ (.slice p q.n m) = V ∧ Blk 31 V B c.cs ∧ Blk 36 V (B + 1) (askWith q p m).cs ∧ Reads .i64 V p q.n zs ∧ Below w.heap.size w V := by
  refine ⟨_, rfl, ?_, ?_, r.store q1.ask.2.1 _, hb.setCell (Nat.le_succ_of_le hB) _⟩
  · exact (Below.heap_setCell _ _ _ _ (by simp)).trans q0
  · rw [← ask_set1 q]
    exact q1.set 1 _

set_option maxHeartbeats 4000000 in
set_option maxRecDepth 20000 in
theorem walk (cd0 ch0 cl0 cv0 cu0 cx0 ct0 cn0 : Int) (Q1 : Aq) (z1 : List Int) (a2 : Int) (w : World)  (w1 : AkAt w Q1 z1) (w2 : (Lit.int .i64 a2).wf = true) :
    Calls Try.prog 4 #[.agg #[.int .i64 cd0, .int .i64 ch0, .int .i64 cl0, .int .i64 cv0, .int .i64 cu0, .int .i64 cx0, .int .i64 ct0, .int .i64 cn0], Q1.w, .int .i64 a2] w fun e w' => e = .returned (.bool true) ∧ Below w.heap.size w w' := by
  obtain ⟨c, hc⟩ : ∃ c : Cq, (⟨cd0, ch0, cl0, cv0, cu0, cx0, ct0, cn0⟩ : Cq) = c := ⟨_, rfl⟩
  have x2 : -9223372036854775808 ≤ a2 ∧ a2 ≤ 9223372036854775807 := by simp [Lit.wf, IntKind.min, IntKind.max, IntKind.signed, IntKind.bits] at w2; omega
  change Calls Try.prog 4 #[(⟨cd0, ch0, cl0, cv0, cu0, cx0, ct0, cn0⟩ : Cq).w, Q1.w, .int .i64 a2] w _
  rw [hc]
  clear hc
  have hb := below_new (below_new (Below.refl w.heap.size w) (.cells c.cs 31)) (.cells Q1.cs 36)
  by_cases n1 : 1000 < (Q1.n : Int)
  · go_enter Try.func4, Try.ntmps4
    go_wp2
    go_ret
    exact ⟨rfl, hb⟩
  by_cases n2 : 1099511627776 < a2
  · go_enter Try.func4, Try.ntmps4
    go_wp2
    go_ret
    exact ⟨rfl, hb⟩
  have q0 : Blk 31 ((w.alloc (.cells c.cs 31)).alloc (.cells Q1.cs 36)) w.heap.size c.cs := (Blk.new 31 w _).kept (below_new (Below.refl _ _) _)
  have q1 : Blk 36 ((w.alloc (.cells c.cs 31)).alloc (.cells Q1.cs 36)) (w.heap.size + 1) Q1.cs := by simpa using Blk.new 36 (w.alloc (.cells c.cs 31)) Q1.cs
  obtain ⟨W0, eW⟩ : ∃ W0, (w.alloc (.cells c.cs 31)).alloc (.cells Q1.cs 36) = W0 := ⟨_, rfl⟩
  rw [eW] at hb q0 q1
  have hr := w1.t.below hb
  have i3 := info3
  obtain ⟨i0, hi, hz0, hz1, hz2⟩ : ∃ i, Try.prog.info? 3 = some i ∧ i.zero = some (.int .i64 0) ∧ i.size = 1 ∧ i.bytes = 8 := by
    cases e : Try.prog.info? 3 with
    | none => rw [e] at i3; cases i3
    | some i => rw [e] at i3; simp at i3; exact ⟨i, rfl, i3.1, i3.2.1, i3.2.2⟩
  clear i3
  have te := hidden_ w1.te
  obtain ⟨a0, a1, b2, a3, a4, a5, a6, a7, a8⟩ := (q1.kept (below_new (Below.refl _ W0) (.cells #[] 3))).ask
  obtain ⟨d0, d1, d2, d3, d4, d5, d6, d7, d8⟩ := q1.ask
  have EW := hidden_ eW
  go_enter Try.func4, Try.ntmps4
  go_wp2_with (at_builtin; refine wpList_copy rfl (.tmp 15) (.tmp 17) 32 rfl W0.heap.size 3 i0 (.int .i64 0) 8 Try.underlying32 hi hz0 hz1 hz2 rfl _ 0 [] rfl (World.ownsRow_lit _ #[] 0 (Nat.le_refl _) (by decide) rfl) .i64 Q1.a Q1.n Q1.c z1 rfl (hr.below (below_new (Below.refl _ _) _)) te.out (by unfold maxLen; omega) (by omega) (below_new (Below.refl _ _) _).size ?_; intro v1 W1 ho1 hg1; obtain ⟨p1, C1, rfl, r1, hb1, e1, cap1⟩ := copied (Below.refl W0.heap.size W0) _ ho1 hg1 hr; clear ho1 hg1 e1 cap1 a0 a1 b2 a3 a4 a5 a6 a7 a8 d0 d1 d2 d3 d4 d5 d6 d7 d8; have q0' := q0.kept hb1; have q1' := q1.kept hb1; have hb' := below_then hb hb1; have a1 := q1'.ask.2.1; have f1 := q1'.open_ 1; obtain ⟨V, eV, q2, q3, rV, hbV⟩ := need_store (m := C1) q0' q1' r1 (Nat.le_refl _) hb'; have hV := hidden_ (And.intro q2 (And.intro q3 (And.intro rV hbV))); clear q0' q1' hb' q0 q1 hb hb1 hr r1 rV q2 q3 hbV)
  obtain ⟨q0, q1, rV, hb⟩ := hV.out
  clear hV eV a1 f1 EW eW te
  have kc := fun W (h : Reads .i64 W p1 Q1.n z1) => want_call c (askWith Q1 p1 C1) z1 a2 x2.1 x2.2 W h
  have kd := fun W (h : Reads .i64 W p1 Q1.n z1) => refWant_call c (askWith Q1 p1 C1) z1 a2 x2.1 x2.2 W h
  obtain ⟨E, hE⟩ : ∃ E, wantZ c (askWith Q1 p1 C1) z1 a2 = E := ⟨_, rfl⟩
  simp only [hE] at kc kd
  clear hE
  have EE : (E == E) = true := by simp
  replace q0 : Blk 31 V.drew w.heap.size c.cs := q0
  replace q1 : Blk 36 V.drew (w.heap.size + 1) (askWith Q1 p1 C1).cs := q1
  replace rV : Reads .i64 V.drew p1 Q1.n z1 := rV.drewN 1
  replace hb : Below w.heap.size w V.drew := below_drew hb ⟨1, rfl⟩
  obtain ⟨c0, c1, c2, c3, c4, c5, c6, c7⟩ := q0.cfg
  obtain ⟨a0, a1, b2, a3, a4, a5, a6, a7, a8⟩ := q1.ask
  go_region_held3 (fun W => W.cell? ⟨w.heap.size, 0, none⟩ = some (.int .i64 c.d) ∧ W.cell? ⟨w.heap.size, 1, none⟩ = some (.int .i64 c.h) ∧ W.cell? ⟨w.heap.size, 2, none⟩ = some (.int .i64 c.l) ∧ W.cell? ⟨w.heap.size, 3, none⟩ = some (.int .i64 c.v) ∧ W.cell? ⟨w.heap.size, 4, none⟩ = some (.int .i64 c.u) ∧ W.cell? ⟨w.heap.size, 5, none⟩ = some (.int .i64 c.x) ∧ W.cell? ⟨w.heap.size, 6, none⟩ = some (.int .i64 c.t) ∧ W.cell? ⟨w.heap.size, 7, none⟩ = some (.int .i64 c.n) ∧ W.cell? ⟨w.heap.size + 1, 0, none⟩ = some (.int .i64 Q1.k) ∧ W.cell? ⟨w.heap.size + 1, 1, none⟩ = some (.slice p1 Q1.n C1) ∧ W.cell? ⟨w.heap.size + 1, 2, none⟩ = some (.int .i64 Q1.L) ∧ W.cell? ⟨w.heap.size + 1, 3, none⟩ = some (.int .i64 Q1.S) ∧ W.cell? ⟨w.heap.size + 1, 4, none⟩ = some (.int .u64 Q1.sd) ∧ W.cell? ⟨w.heap.size + 1, 5, none⟩ = some (.int .i64 Q1.T) ∧ W.cell? ⟨w.heap.size + 1, 6, none⟩ = some (.float .f64 Q1.H) ∧ W.cell? ⟨w.heap.size + 1, 7, none⟩ = some (.int .i64 Q1.B) ∧ W.cell? ⟨w.heap.size + 1, 8, none⟩ = some (.int .i64 Q1.E)) (exact ⟨c0, c1, c2, c3, c4, c5, c6, c7, a0, a1, b2, a3, a4, a5, a6, a7, a8⟩) (first
    | (go_at_call 12; refine (kc _ rV).mono ?_; rintro e W2 ⟨rfl, h⟩; replace q0 := q0.kept h; replace q1 := q1.kept h; replace rV := rV.below h; replace hb := below_then hb h; clear h c0 c1 c2 c3 c4 c5 c6 c7 a0 a1 b2 a3 a4 a5 a6 a7 a8; obtain ⟨c0, c1, c2, c3, c4, c5, c6, c7⟩ := q0.cfg; obtain ⟨a0, a1, b2, a3, a4, a5, a6, a7, a8⟩ := q1.ask)
    | (go_at_call 13; refine (kd _ rV).mono ?_; rintro e W2 ⟨rfl, h⟩; replace q0 := q0.kept h; replace q1 := q1.kept h; replace rV := rV.below h; replace hb := below_then hb h; clear h c0 c1 c2 c3 c4 c5 c6 c7 a0 a1 b2 a3 a4 a5 a6 a7 a8; obtain ⟨c0, c1, c2, c3, c4, c5, c6, c7⟩ := q0.cfg; obtain ⟨a0, a1, b2, a3, a4, a5, a6, a7, a8⟩ := q1.ask))
  all_goals
    go_wp2
    go_ret
    exact ⟨rfl, hb⟩

theorem contract (H : Type) (enc : TypeId × Value → H) (W : World) (base : Nat) (args : Array Value) (ds gs : List (DataW H)) (before : List MemPlace)
    (hval0 : ∀ (j : Nat) t v, Try.f4.params[j]? = some t → args[j]? = some v → Value.okWide Try.prog W .any base t v)
    (hW : DataW.Whole enc Try.prog Try.f4.params.toList Rows.admitNeedsSpec.vars false W args.toList ds gs before) :
    Calls Try.prog 4 args W fun e W' => ∃ v, e = .returned v ∧ Rows.admitNeedsSpec.post enc Try.prog Try.f4 false true false false W args v W' := by
  have hval : ∀ (j : Nat) t v, Try.f4.params[j]? = some t → args[j]? = some v → Value.okWide Try.prog W .any base t v := hval0
  have hW' := hW
  obtain ⟨p, q, hA0, hV, rfl, hfz, hnd⟩ := hW
  have hA : DataW.TrodAll enc Try.prog W 0 (fun _ => true) true Try.f4.params.toList args.toList ds p := hA0
  rw [Try.params4] at hA hval
  obtain ⟨v0, vs0, d0, ds0, p0, q0, hargs, rfl, rfl, h0, r0⟩ := trodAll_cons hA
  obtain ⟨v1, vs1, d1, ds1, p1, q1, rfl, rfl, rfl, h1, r1⟩ := trodAll_cons r0
  obtain ⟨v2, vs2, d2, ds2, p2, q2, rfl, rfl, rfl, h2, r2⟩ := trodAll_cons r1
  obtain ⟨rfl, rfl, rfl⟩ := trodAll_nil r2
  obtain rfl : args = #[v0, v1, v2] := by cases args; simp_all
  obtain ⟨rfl, rfl⟩ := trodVars_none hV
  have k0 := h0
  have lt0 : ∀ x ∈ p0, x.block < W.heap.size := by obtain ⟨m, hm⟩ := k0; exact DataW.trod_lt m _ _ _ hm
  obtain ⟨cd0, ch0, cl0, cv0, cu0, cx0, ct0, cn0, rfl⟩ := open_cfg (hval 0 31 v0 rfl rfl) h0
  have k1 := h1
  have lt1 : ∀ x ∈ p1, x.block < W.heap.size := by obtain ⟨m, hm⟩ := k1; exact DataW.trod_lt m _ _ _ hm
  obtain ⟨Q1, z1, rfl, w1⟩ := open_ask (hval 1 36 v1 rfl rfl) h1
  obtain ⟨a2, rfl, rfl, rfl, w2⟩ := open_int Try.underlying3 (hval 2 3 v2 rfl rfl) h2
  clear hA0 hval0
  refine (walk cd0 ch0 cl0 cv0 cu0 cx0 ct0 cn0 Q1 z1 a2 W  w1 w2).mono fun e W' ⟨he, bel⟩ => ?_
  subst he
  exact ⟨_, rfl, _, _, _, [], _, [], hW', trodAll_mk1 (shut_bool Try.underlying4 _), (trodAll_cons_mk (Below.trod laidOut (by kernel_rfl) (of_decide_eq_true (by kernel_rfl)) k0 bel lt0) (trodAll_cons_mk (Below.trod laidOut (by kernel_rfl) (of_decide_eq_true (by kernel_rfl)) k1 bel lt1) (trodAll_cons_mk (shut_int Try.underlying3 w2) trodAll_mk0))), rfl, bel.frame _, fun h => by cases h⟩

set_option maxRecDepth 100000 in
theorem lifted (os : Os) (started : os.Started) (H : Type) (enc : TypeId × Value → H) :
    ReturnsInHanded {} Try.checked os 4 .any (Rows.admitNeedsSpec.pre6 enc Try.prog Try.f4 Rows.admitNeedsRow.domain false) (Rows.admitNeedsSpec.post enc Try.prog Try.f4 false true false false) := by
  refine returnsInHanded_of_change (C := Try.checked) own started (by kernel_rfl) Try.func4
    (ChangeSpec.witness6 (enc := enc) (C := Try.checked) false ⟨#[], #[.agg #[.int .i64 0, .int .i64 0, .int .i64 0, .int .i64 0, .int .i64 0, .int .i64 0, .int .i64 0, .int .i64 0], .agg #[.int .i64 0, .slice none 0 0, .int .i64 0, .int .i64 0, .int .u64 0, .int .i64 0, .float .f64 0, .int .i64 0, .int .i64 0], .int .i64 0], []⟩ 8 (by kernel_rfl) (by kernel_rfl) (by kernel_rfl) (by kernel_rfl)) ?_
  intro W base args ds gs before hval hW _ _
  exact contract H enc W base args ds gs before hval hW

theorem over : Rows.admitNeedsRow.holds Try.pinned (OpenSpec.ofChange Rows.admitNeedsSpec) :=
  OpenClaim.holds_of_wide 4 Try.f4 rfl rfl rfl rfl rfl rfl rfl ⟨rfl, rfl, rfl, rfl, rfl⟩ rfl rfl rfl rfl rfl (by kernel_rfl) Try.func4 (by kernel_rfl)
    (of_decide_eq_true (by kernel_rfl)) (by unfold Func.isWrapper; first | (rw [if_pos (by decide +kernel)]; kernel_rfl) | (rw [if_neg (by decide +kernel)]; exact ⟨rfl, rfl⟩))
    (fun os started H enc _ => lifted os started H enc)

theorem proved : Rows.AdmitNeedsSaid :=
  over
#print axioms proved
end Go.Proofs.Ytcpnakghndfdpaa.admitNeeds
