/- AdmitLonger: a longer request needs no fewer pages, and an adapter's weights need what they take, of any configuration and any ask whose prompt holds at most a hundred tokens. -/
import Derived.Test.YtcpnakghndfdpaaRows
import Derived.Test.YtcpnakghndfdpaaView
import Derived.Test.YtcpnakghndfdpaaCfgs
import Derived.Test.YtcpnakghndfdpaaHeld
import Derived.Test.YtcpnakghndfdpaaAskA
import Derived.Test.YtcpnakghndfdpaaAskC
import Derived.Test.YtcpnakghndfdpaaAskO
import Derived.Test.YtcpnakghndfdpaaOpenCfg
import Derived.Test.YtcpnakghndfdpaaMdSmall
import Derived.Test.YtcpnakghndfdpaaPlain
import Derived.Test.YtcpnakghndfdpaaAdP
import Derived.Test.YtcpnakghndfdpaaAdZ
import Derived.Test.YtcpnakghndfdpaaAdN
import Derived.Test.YtcpnakghndfdpaaAdW
import Derived.WalkKit
import Derived.ProofKit
import Derived.OpenShut
import Derived.ChangeOld
import Derived.Below
import Derived.WalkLawsBesides
import Derived.ChangeMaps5
import Derived.Deep.RegionHeld3
import Derived.Lib.MinMax
namespace Go.Proofs.Ytcpnakghndfdpaa.admitLonger
open Go.ChangeShapes Go.WideShapes Go.ChangeAt Go.RowKit
set_option linter.unusedVariables false
set_option linter.unusedSimpArgs false

theorem own : ownKnob Try.prog.godebug = none := by kernel_rfl
theorem laidOut : laidOutB Try.prog = true := by kernel_rfl

abbrev askLen (q : Aq) (l : Int) : Aq := ⟨q.k, q.a, q.n, q.c, l, q.S, q.sd, q.T, q.H, q.B, q.E⟩
theorem need_more {X : Int} (h : 0 ≤ X) : needZ X = (X + 31) / 32 := by
  unfold needZ
  split <;> omega
theorem pages_one {r d : Int} (h0 : 1 ≤ d) (h1 : d ≤ 32) (r0 : 1 ≤ r) : 1 ≤ pagesZ r d := by
  have ⟨p0, p1⟩ := per_bounds h0 h1
  unfold pagesZ
  generalize (32 : Int).tdiv d = p at *
  rw [Int.tdiv_eq_ediv_of_nonneg (by omega), Int.le_ediv_iff_mul_le (by omega)]
  omega
theorem check_len {c : Cq} {q : Aq} {zs : List Int} (h : checkZ c q zs = 0) : 0 < zs.length := by
  unfold checkZ at h
  split at h
  · rename_i h1
    simp only [Bool.and_eq_true, promptZ, decide_eq_true_eq] at h1
    exact h1.2.1.1
  · cases h
theorem want_bounds {c : Cq} {q : Aq} {zs : List Int} : 0 ≤ wantZ c q zs 0 ∧ wantZ c q zs 0 ≤ 320 := by
  unfold wantZ
  split
  · rename_i hz
    obtain ⟨n24, hL, hB⟩ := check_zero hz
    have ⟨d0, d1⟩ := wide_of hz
    have ⟨r0, r1⟩ := rows_bounds n24 hL
    have ⟨s0, s1⟩ := seqs_bounds hz
    have ⟨p0, p1⟩ := pages_bounds (r := rowsZ q) (d := c.wide) (by omega) d1 r0 (by omega)
    have ⟨m0, m1⟩ := mul_bounds (show 0 ≤ seqsZ q by omega) s1 p0 p1
    have e : needZ 0 = 0 := rfl
    rw [e]
    split <;> omega
  · omega
theorem want_weights {c : Cq} {q : Aq} {zs : List Int} {X : Int} (hl : zs.length = q.n) (hX : 0 ≤ X) : wantZ c q zs 0 = 0 ∧ wantZ c q zs X = 0 ∨ wantZ c q zs 0 ≠ 0 ∧ wantZ c q zs X = wantZ c q zs 0 + (X + 31) / 32 := by
  unfold wantZ
  split
  · rename_i hz
    refine .inr ?_
    obtain ⟨n24, hL, hB⟩ := check_zero hz
    have ⟨d0, d1⟩ := wide_of hz
    have ⟨r0, r1⟩ := rows_bounds n24 hL
    have ⟨s0, s1⟩ := seqs_bounds hz
    have h0 := check_len hz
    have p0 := pages_one (r := rowsZ q) (d := c.wide) (by omega) d1 (by unfold rowsZ; split <;> omega)
    have m0 := Int.mul_le_mul s0 p0 (by omega) (by omega)
    have e : needZ 0 = 0 := rfl
    rw [e, need_more hX]
    split <;> omega
  · exact .inl ⟨rfl, rfl⟩
theorem want_longer {c : Cq} {q : Aq} {zs : List Int} (h : wantZ c q zs 0 ≠ 0) : wantZ c (askLen q (max 0 (min q.L 1000) + 1)) zs 0 = 0 ∨ wantZ c q zs 0 ≤ wantZ c (askLen q (max 0 (min q.L 1000) + 1)) zs 0 := by
  unfold wantZ at *
  split at h
  · rename_i hz
    split
    · rename_i hz'
      refine .inr ?_
      obtain ⟨n24, hL, hB⟩ := check_zero hz
      have ⟨d0, d1⟩ := wide_of hz
      have ⟨r0, r1⟩ := rows_bounds n24 hL
      have ⟨s0, s1⟩ := seqs_bounds hz
      have hs : seqsZ (askLen q (max 0 (min q.L 1000) + 1)) = seqsZ q := rfl
      have hr : rowsZ q ≤ rowsZ (askLen q (max 0 (min q.L 1000) + 1)) := by
        unfold rowsZ
        show (if q.k = 4 then (q.n : Int) else (q.n : Int) + q.L) ≤ (if q.k = 4 then (q.n : Int) else (q.n : Int) + (max 0 (min q.L 1000) + 1))
        split <;> omega
      have p := pages_mono (d := c.wide) (by omega) d1 r0 hr
      rw [hs]
      have m := Int.mul_le_mul_of_nonneg_left p (show 0 ≤ seqsZ q by omega)
      omega
    · exact .inl rfl
  · exact absurd rfl h
theorem few (a : Int) : ∃ X, wrap64 ((IntKind.u64.wrap a).tmod 10000) = X ∧ 0 ≤ X ∧ X < 10000 := by
  refine ⟨_, rfl, ?_⟩
  have e : IntKind.u64.wrap a = a % 18446744073709551616 := rfl
  rw [e, Int.tmod_eq_emod_of_nonneg (by omega)]
  have h : wrap64 (a % 18446744073709551616 % 10000) = a % 18446744073709551616 % 10000 := by
    unfold wrap64; omega
  rw [h]
  omega

set_option maxHeartbeats 4000000 in
set_option maxRecDepth 20000 in
theorem walk (cd0 ch0 cl0 cv0 cu0 cx0 ct0 cn0 : Int) (Q1 : Aq) (z1 : List Int) (a2 : Int) (w : World)  (w1 : AkAt w Q1 z1) (w2 : (Lit.int .i64 a2).wf = true) :
    Calls Try.prog 7 #[.agg #[.int .i64 cd0, .int .i64 ch0, .int .i64 cl0, .int .i64 cv0, .int .i64 cu0, .int .i64 cx0, .int .i64 ct0, .int .i64 cn0], Q1.w, .int .i64 a2] w fun e w' => e = .returned (.bool true) ∧ Below w.heap.size w w' := by
  obtain ⟨c, hc⟩ : ∃ c : Cq, (⟨cd0, ch0, cl0, cv0, cu0, cx0, ct0, cn0⟩ : Cq) = c := ⟨_, rfl⟩
  change Calls Try.prog 7 #[(⟨cd0, ch0, cl0, cv0, cu0, cx0, ct0, cn0⟩ : Cq).w, Q1.w, .int .i64 a2] w _
  rw [hc]
  clear hc
  have hb := below_new (below_new (Below.refl w.heap.size w) (.cells c.cs 31)) (.cells Q1.cs 36)
  have q0 : Blk 31 ((w.alloc (.cells c.cs 31)).alloc (.cells Q1.cs 36)) w.heap.size c.cs := (Blk.new 31 w _).kept (below_new (Below.refl _ _) _)
  have q1 : Blk 36 ((w.alloc (.cells c.cs 31)).alloc (.cells Q1.cs 36)) (w.heap.size + 1) Q1.cs := by simpa using Blk.new 36 (w.alloc (.cells c.cs 31)) Q1.cs
  have hr := w1.t.below hb
  obtain ⟨X, hX, x0, x1⟩ := few a2
  have kn := fun W (h : Reads .i64 W Q1.a Q1.n z1) => want_call c Q1 z1 0 (by decide) (by decide) W h
  have km := fun W (h : Reads .i64 W Q1.a Q1.n z1) => want_call c Q1 z1 X (by omega) (by omega) W h
  have kk := fun W (h : Reads .i64 W Q1.a Q1.n z1) => want_call c (askLen Q1 (max 0 (min Q1.L 1000) + 1)) z1 0 (by decide) (by decide) W h
  have b0 := want_bounds (c := c) (q := Q1) (zs := z1)
  have l0 := want_weights (c := c) (q := Q1) (zs := z1) w1.t.len x0
  have l1 := want_longer (c := c) (q := Q1) (zs := z1)
  obtain ⟨N, hN⟩ : ∃ N, wantZ c Q1 z1 0 = N := ⟨_, rfl⟩
  obtain ⟨M, hM⟩ : ∃ M, wantZ c Q1 z1 X = M := ⟨_, rfl⟩
  obtain ⟨K, hK⟩ : ∃ K, wantZ c (askLen Q1 (max 0 (min Q1.L 1000) + 1)) z1 0 = K := ⟨_, rfl⟩
  simp only [hN, hM, hK] at kn km kk b0 l0 l1
  clear hN hM hK
  obtain ⟨L', hL'⟩ : ∃ L', max 0 (min Q1.L 1000) + 1 = L' := ⟨_, rfl⟩
  rw [hL'] at kk
  have hD : (X + 31).tdiv 32 = (X + 31) / 32 := Int.tdiv_eq_ediv_of_nonneg (by omega)
  obtain ⟨D, eD⟩ : ∃ D, (X + 31) / 32 = D := ⟨_, rfl⟩
  have hD0 : 0 ≤ D ∧ D ≤ 1000 := by omega
  rw [eD] at hD l0
  clear eD
  have hl : (N = 0 ∧ M = 0) ∨ (N ≠ 0 ∧ M = N + D ∧ K = 0) ∨ (N ≠ 0 ∧ M = N + D ∧ K ≠ 0 ∧ N ≤ K) := by
    rcases l0 with h | ⟨h, h2⟩
    · exact .inl h
    · rcases l1 h with h3 | h3
      · exact .inr (.inl ⟨h, h2, h3⟩)
      · exact .inr (.inr ⟨h, h2, by omega, h3⟩)
  clear l0 l1
  by_cases h100 : 100 < (Q1.n : Int)
  · go_enter Try.func7, Try.ntmps7
    go_wp2_with (go_at_call 16; refine (works_call _).mono ?_; rintro e W1 ⟨rfl, h⟩; replace q1 := q1.kept h; replace hb := below_then hb h; clear h; obtain ⟨a0, a1, b2, a3, a4, a5, a6, a7, a8⟩ := q1.ask)
    go_ret
    exact ⟨rfl, hb⟩
  have HB := hidden_ hb
  clear hb w1
  have kf : ∀ (w : World) (a : Addr) (x : Nat) (m : Mode), (store a (.float .f64 x) m).run Try.prog w = stored Try.prog w a (.float .f64 x) m := fun w a x m => run_store Try.prog w a _ m rfl
  rcases hl with ⟨rfl, rfl⟩ | ⟨h0, rfl, rfl⟩ | ⟨h0, rfl, hk, hle⟩
  all_goals
    go_enter Try.func7, Try.ntmps7
    go_wp2_with (first
      | (go_at_call 16; refine (works_call _).mono ?_; rintro e W1 ⟨rfl, h⟩; replace q0 := q0.kept h; replace q1 := q1.kept h; replace hr := hr.below h; replace HB := hidden_ (below_then HB.out h); clear h; obtain ⟨c0, c1, c2, c3, c4, c5, c6, c7⟩ := q0.cfg; obtain ⟨a0, a1, b2, a3, a4, a5, a6, a7, a8⟩ := q1.ask)
      | (go_at_call 12; refine (kn _ hr).mono ?_; rintro e W2 ⟨rfl, h⟩; clear kn; replace q0 := q0.kept h; replace q1 := q1.kept h; replace hr := hr.below h; replace HB := hidden_ (below_then HB.out h); clear h c0 c1 c2 c3 c4 c5 c6 c7 a0 a1 b2 a3 a4 a5 a6 a7 a8; obtain ⟨c0, c1, c2, c3, c4, c5, c6, c7⟩ := q0.cfg; obtain ⟨a0, a1, b2, a3, a4, a5, a6, a7, a8⟩ := q1.ask)
      | (go_at_call 12; refine (km _ hr).mono ?_; rintro e W3 ⟨rfl, h⟩; clear km; replace q0 := q0.kept h; replace q1 := q1.kept h; replace hr := hr.below h; replace HB := hidden_ (below_then HB.out h); clear h c0 c1 c2 c3 c4 c5 c6 c7 a0 a1 b2 a3 a4 a5 a6 a7 a8; obtain ⟨a0, a1, b2, a3, a4, a5, a6, a7, a8⟩ := q1.ask; have y2 : (W3.alloc (.cells Q1.cs 36)).cell? ⟨w.heap.size + 1, 2, none⟩ = some (.int .i64 Q1.L) := (q1.kept (below_new (Below.refl _ _) _)).ask.2.2.1; replace q0 : Blk 31 (W3.alloc (.cells (askLen Q1 L').cs 36)) w.heap.size c.cs := q0.kept (below_new (Below.refl _ _) _); obtain ⟨c0, c1, c2, c3, c4, c5, c6, c7⟩ := q0.cfg; replace hr : Reads .i64 (W3.alloc (.cells (askLen Q1 L').cs 36)) Q1.a Q1.n z1 := hr.below (below_new (Below.refl _ _) _); replace HB := hidden_ (below_new HB.out (.cells (askLen Q1 L').cs 36)))
      | (go_at_call 12; refine (kk _ hr).mono ?_; rintro e W4 ⟨rfl, h⟩; clear kk; replace HB := hidden_ (below_then HB.out h); clear h c0 c1 c2 c3 c4 c5 c6 c7))
    go_ret
    exact ⟨rfl, HB.out⟩

theorem contract (H : Type) (enc : TypeId × Value → H) (W : World) (base : Nat) (args : Array Value) (ds gs : List (DataW H)) (before : List MemPlace)
    (hval0 : ∀ (j : Nat) t v, Try.f7.params[j]? = some t → args[j]? = some v → Value.okWide Try.prog W .any base t v)
    (hW : DataW.Whole enc Try.prog Try.f7.params.toList Rows.admitLongerSpec.vars false W args.toList ds gs before) :
    Calls Try.prog 7 args W fun e W' => ∃ v, e = .returned v ∧ Rows.admitLongerSpec.post enc Try.prog Try.f7 false true false false W args v W' := by
  have hval : ∀ (j : Nat) t v, Try.f7.params[j]? = some t → args[j]? = some v → Value.okWide Try.prog W .any base t v := hval0
  have hW' := hW
  obtain ⟨p, q, hA0, hV, rfl, hfz, hnd⟩ := hW
  have hA : DataW.TrodAll enc Try.prog W 0 (fun _ => true) true Try.f7.params.toList args.toList ds p := hA0
  rw [Try.params7] at hA hval
  obtain ⟨v0, vs0, d0, ds0, p0, q0, hargs, rfl, rfl, h0, r0⟩ := trodAll_cons hA
  obtain ⟨v1, vs1, d1, ds1, p1, q1, rfl, rfl, rfl, h1, r1⟩ := trodAll_cons r0
  obtain ⟨v2, vs2, d2, ds2, p2, q2, rfl, rfl, rfl, h2, r2⟩ := trodAll_cons r1
  obtain ⟨rfl, rfl, rfl⟩ := trodAll_nil r2
  obtain rfl : args = #[v0, v1, v2] := by cases args; simp_all
  obtain ⟨rfl, rfl⟩ := trodVars_none hV
  have k0 := h0
  have lt0 : ∀ x ∈ p0, x.block < W.heap.size := by obtain ⟨m, hm⟩ := k0; exact DataW.trod_lt m _ _ _ hm
  obtain ⟨cd0, ch0, cl0, cv0, cu0, cx0, ct0, cn0, rfl⟩ := open_cfg (hval 0 31 v0 rfl rfl) h0
  have k1 := h1
  have lt1 : ∀ x ∈ p1, x.block < W.heap.size := by obtain ⟨m, hm⟩ := k1; exact DataW.trod_lt m _ _ _ hm
  obtain ⟨Q1, z1, rfl, w1⟩ := open_ask (hval 1 36 v1 rfl rfl) h1
  obtain ⟨a2, rfl, rfl, rfl, w2⟩ := open_int Try.underlying3 (hval 2 3 v2 rfl rfl) h2
  clear hA0 hval0
  refine (walk cd0 ch0 cl0 cv0 cu0 cx0 ct0 cn0 Q1 z1 a2 W  w1 w2).mono fun e W' ⟨he, bel⟩ => ?_
  subst he
  exact ⟨_, rfl, _, _, _, [], _, [], hW', trodAll_mk1 (shut_bool Try.underlying4 _), (trodAll_cons_mk (Below.trod laidOut (by kernel_rfl) (of_decide_eq_true (by kernel_rfl)) k0 bel lt0) (trodAll_cons_mk (Below.trod laidOut (by kernel_rfl) (of_decide_eq_true (by kernel_rfl)) k1 bel lt1) (trodAll_cons_mk (shut_int Try.underlying3 w2) trodAll_mk0))), rfl, bel.frame _, fun h => by cases h⟩

set_option maxRecDepth 100000 in
theorem lifted (os : Os) (started : os.Started) (H : Type) (enc : TypeId × Value → H) :
    ReturnsInHanded {} Try.checked os 7 .any (Rows.admitLongerSpec.pre6 enc Try.prog Try.f7 Rows.admitLongerRow.domain false) (Rows.admitLongerSpec.post enc Try.prog Try.f7 false true false false) := by
  refine returnsInHanded_of_change (C := Try.checked) own started (by kernel_rfl) Try.func7
    (ChangeSpec.witness6 (enc := enc) (C := Try.checked) false ⟨#[], #[.agg #[.int .i64 0, .int .i64 0, .int .i64 0, .int .i64 0, .int .i64 0, .int .i64 0, .int .i64 0, .int .i64 0], .agg #[.int .i64 0, .slice none 0 0, .int .i64 0, .int .i64 0, .int .u64 0, .int .i64 0, .float .f64 0, .int .i64 0, .int .i64 0], .int .i64 0], []⟩ 8 (by kernel_rfl) (by kernel_rfl) (by kernel_rfl) (by kernel_rfl)) ?_
  intro W base args ds gs before hval hW _ _
  exact contract H enc W base args ds gs before hval hW

theorem over : Rows.admitLongerRow.holds Try.pinned (OpenSpec.ofChange Rows.admitLongerSpec) :=
  OpenClaim.holds_of_wide 7 Try.f7 rfl rfl rfl rfl rfl rfl rfl ⟨rfl, rfl, rfl, rfl, rfl⟩ rfl rfl rfl rfl rfl (by kernel_rfl) Try.func7 (by kernel_rfl)
    (of_decide_eq_true (by kernel_rfl)) (by unfold Func.isWrapper; first | (rw [if_pos (by decide +kernel)]; kernel_rfl) | (rw [if_neg (by decide +kernel)]; exact ⟨rfl, rfl⟩))
    (fun os started H enc _ => lifted os started H enc)

theorem proved : Rows.AdmitLongerSaid :=
  over
#print axioms proved
end Go.Proofs.Ytcpnakghndfdpaa.admitLonger
