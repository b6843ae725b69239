/- For every row of one to 1000 numbers (each taken modulo 2^31), the program's Rms with weights of one, of the row with all signs turned, is its Rms of the row with all signs turned, and with weights of nought it is nought, without an error; for other rows nothing is asked but the examples. -/
import Derived.Test.YtdpodanhokihlaaRows
import Derived.Test.YtdpodanhokihlaaSat
import Derived.Test.YtdpodanhokihlaaSatRef
import Derived.Test.YtdpodanhokihlaaAdds
import Derived.Test.YtdpodanhokihlaaView
import Derived.Test.YtdpodanhokihlaaOwn
import Derived.Test.YtdpodanhokihlaaSteps
import Derived.Test.YtdpodanhokihlaaWhere
import Derived.Test.YtdpodanhokihlaaQuad
import Derived.Test.YtdpodanhokihlaaRoot
import Derived.Test.YtdpodanhokihlaaOrder
import Derived.Test.YtdpodanhokihlaaExp
import Derived.Test.YtdpodanhokihlaaSoft
import Derived.Test.YtdpodanhokihlaaWorks
import Derived.Test.YtdpodanhokihlaaRms
import Derived.Test.YtdpodanhokihlaaMean
import Derived.Test.YtdpodanhokihlaaSame
import Derived.Test.YtdpodanhokihlaaLooks
import Derived.Test.YtdpodanhokihlaaTurned
import Derived.WalkKit
import Derived.ProofKit
import Derived.OpenShut
import Derived.ChangeOld
import Derived.Below
import Derived.WalkLawsBesides
namespace Go.Proofs.Ytdpodanhokihlaa.normTurned
open Go.ChangeShapes Go.WideShapes Go.ChangeAt Go.RowKit
set_option linter.unusedVariables false
set_option linter.unusedSimpArgs false

theorem own : ownKnob Try.prog.godebug = none := by kernel_rfl
theorem laidOut : laidOutB Try.prog = true := by kernel_rfl


set_option maxHeartbeats 4000000 in
set_option maxRecDepth 20000 in
theorem walk (a0 : Option Addr) (n0 c0 : Nat) (z0 : List Int) (w : World) (w0 : Reads .i64 w a0 n0 z0) (e0 : a0 = none → c0 = 0) (l0 : n0 ≤ c0) :
    Calls Try.prog 8 #[.slice a0 n0 c0] w fun e w' => e = .returned (.bool true) ∧ Below w.heap.size w w' := by
  obtain ⟨i0, hi, hz0, hz1, hz2⟩ := info_parts info2
  obtain ⟨j0, hj, hy0, hy1, hy2⟩ := info_parts info38
  have hm := w0.max
  by_cases s0 : n0 = 0
  · have z' : ((n0 : Int) == 0) = true := by simp; omega
    go_enter Try.func8, Try.ntmps8
    go_wp2_with (go_at_call 16; refine (works_call _).mono ?_; rintro e W1 ⟨rfl, hb1⟩)
    go_ret
    exact ⟨rfl, hb1⟩
  have z' : ((n0 : Int) == 0) = false := by simp; omega
  by_cases s1 : 1000 < n0
  · have s2 : (1000 : Int) < (n0 : Int) := by omega
    go_enter Try.func8, Try.ntmps8
    go_wp2_with (go_at_call 16; refine (works_call _).mono ?_; rintro e W1 ⟨rfl, hb1⟩)
    go_ret
    exact ⟨rfl, hb1⟩
  have hn : n0 ≤ 1000 := by omega
  go_enter Try.func8, Try.ntmps8
  go_wp2_with (go_at_call 16; refine (works_call _).mono ?_; rintro e W1 ⟨rfl, hb1⟩)
  go_loopw [3, 4, 5, 6] (fun p q r i wr => ∃ k : Nat, k ≤ n0 ∧ i = .int .i64 k ∧ Below w.heap.size w wr ∧ Quad w.heap.size wr ⟨2, p, k, gath (halfF z0) .i64 k⟩ ⟨2, q, k, gath (backF z0) .i64 k⟩ ⟨38, r, k, gath (fun _ => 64) .i8 k⟩ ⟨2, .slice none 0 0, 0, []⟩)
    (fun _ _ _ i _ => n0 - (intOf i).toNat)
  case atStart => exact ⟨0, Nat.zero_le _, rfl, hb1, Quad.nil _ _ _ _ _ _ _ _ _ _ rfl rfl rfl rfl⟩
  case round =>
    obtain ⟨k, hk, rfl, hbr, hq⟩ := hrel
    clear hb1
    by_cases hlt : k < n0
    · obtain ⟨x0, rfl⟩ := w0.some_ (by omega)
      obtain ⟨X, eX⟩ : ∃ X, z0.getD k 0 = X := ⟨_, rfl⟩
      have c0 := (w0.below hbr).cell x0 rfl k hlt
      rw [eX] at c0
      obtain ⟨V, eV⟩ : ∃ V, X.tmod 2147483648 = V := ⟨_, rfl⟩
      have bV := half_bounds X
      rw [eV] at bV
      obtain ⟨bV0, bV1⟩ := bV
      have E0 : Hid (V = halfF z0 k) := by show _ = _; unfold halfF; rw [eX, eV]
      have E1 : Hid (-V = backF z0 k) := by show _ = _; unfold backF; rw [eX, eV]
      have hsz := hbr.size
      clear eX w0
      go_wp2_with (first
        | (at_builtin; refine wpList_append_where rfl (.tmp 36) (.tmp 38) 22 rfl w.heap.size 2 i0 (.int .i64 0) 8 Try.underlying22 hi hz0 hz1 hz2 rfl _ k _ rfl (hq.oa.alloc _) ⟨_, 0, none⟩ 1 (.int .i64 V) rfl (one_new _ _ _) (one_oneCell _ _) (by unfold maxLen; omega) (by omega) (below_new hbr _).size ?_; intro p' W4 ho4 hg4 hs4; have hb4 := below_append (below_new hbr _) (hq.oa.alloc _) hg4; have hq4 := ((hq.alloc _).app ho4 hg4 hs4).rot; clear ho4 hg4 hs4 hq)
        | (at_builtin; refine wpList_append_where rfl (.tmp 40) (.tmp 43) 22 rfl w.heap.size 2 i0 (.int .i64 0) 8 Try.underlying22 hi hz0 hz1 hz2 rfl _ k _ rfl (hq4.oa.alloc _) ⟨_, 0, none⟩ 1 (.int .i64 (-V)) rfl (one_new _ _ _) (one_oneCell _ _) (by unfold maxLen; omega) (by omega) (below_new hb4 _).size ?_; intro q' W5 ho5 hg5 hs5; have hb5 := below_append (below_new hb4 _) (hq4.oa.alloc _) hg5; have hq5 := ((hq4.alloc _).app ho5 hg5 hs5).rot; clear ho5 hg5 hs5 hq4)
        | (at_builtin; refine wpList_append_where rfl (.tmp 45) (.tmp 46) 23 rfl w.heap.size 38 j0 (.int .i8 0) 1 Try.underlying23 hj hy0 hy1 hy2 rfl _ k _ rfl (hq5.oa.alloc _) ⟨_, 0, none⟩ 1 (.int .i8 64) rfl (one_new _ _ _) (one_oneCell _ _) (by unfold maxLen; omega) (by omega) (below_new hb5 _).size ?_; intro r' W6 ho6 hg6 hs6; have hb6 := below_append (below_new hb5 _) (hq5.oa.alloc _) hg6; have hq6 := ((hq5.alloc _).app ho6 hg6 hs6).rot.rot; clear ho6 hg6 hs6 hq5))
      go_roundw
      case rel =>
        refine ⟨k + 1, by omega, by go_num, hb6, ?_⟩
        simp only [gath_succ]
        rw [← E0.out, ← E1.out]
        exact hq6
      case measure => simp [intOf]; omega
    · have e : k = n0 := by omega
      subst e
      have oa := hq.oa
      have ob := hq.ob
      have oc := hq.oc
      dsimp only at oa ob oc
      clear hq
      have wfm : ∀ F : Nat → Int, (∀ j, -9223372036854775808 ≤ F j ∧ F j ≤ 9223372036854775807) → ∀ v ∈ (List.range k).map F, (Lit.int .i64 v).wf = true := fun F h v hv => by obtain ⟨y, _, rfl⟩ := List.mem_map.1 hv; exact WalkArith.wf_i64 (h y)
      obtain ⟨pa, ca, rfl, rp⟩ := own_reads (k := .i64) (zs := (List.range k).map (halfF z0)) oa (by simp) (wfm _ fun j => by have := half_bounds (z0.getD j 0); unfold halfF; omega) (fun j hj => by rw [gath_at _ _ _ _ hj]; simp [hj])
      obtain ⟨pb, cb, rfl, rq⟩ := own_reads (k := .i64) (zs := (List.range k).map (backF z0)) ob (by simp) (wfm _ fun j => by have := half_bounds (z0.getD j 0); unfold backF; omega) (fun j hj => by rw [gath_at _ _ _ _ hj]; simp [hj])
      obtain ⟨pc, cc, rfl, rr⟩ := own_reads (k := .i8) (zs := (List.range k).map fun _ => 64) oc (by simp) (fun v hv => by obtain ⟨y, _, rfl⟩ := List.mem_map.1 hv; decide) (fun j hj => by rw [gath_at _ _ _ _ hj]; simp [hj])
      have f1 := rms_turned z0 k
      have f2 := rms_nought ((List.range k).map (halfF z0)) k
      have k1 : ∀ W p q r s, Reads .i64 W p k ((List.range k).map (halfF z0)) → Reads .i8 W r k ((List.range k).map fun _ => 64) → Calls Try.prog 9 #[.slice p k q, .slice r k s] W fun e w' => (∃ a c, e = .returned (.tuple #[.slice a k c, .int .i64 0]) ∧ Reads .i64 w' a k (rmsZ ((List.range k).map (halfF z0)) ((List.range k).map fun _ => 64) k)) ∧ Below W.heap.size W w' :=
        fun W p q r s h h' => rms_same p k q _ r s _ W h h' (by omega) (by omega)
      have k2 : ∀ W p q r s, Reads .i64 W p k ((List.range k).map (backF z0)) → Reads .i8 W r k ((List.range k).map fun _ => 64) → Calls Try.prog 9 #[.slice p k q, .slice r k s] W fun e w' => (∃ a c, e = .returned (.tuple #[.slice a k c, .int .i64 0]) ∧ Reads .i64 w' a k (rmsZ ((List.range k).map (backF z0)) ((List.range k).map fun _ => 64) k)) ∧ Below W.heap.size W w' :=
        fun W p q r s h h' => rms_same p k q _ r s _ W h h' (by omega) (by omega)
      have k3 : ∀ W p q r s, Reads .i64 W p k ((List.range k).map (halfF z0)) → Reads .i8 W r k ((List.range k).map fun _ => 0) → Calls Try.prog 9 #[.slice p k q, .slice r k s] W fun e w' => (∃ a c, e = .returned (.tuple #[.slice a k c, .int .i64 0]) ∧ Reads .i64 w' a k (rmsZ ((List.range k).map (halfF z0)) ((List.range k).map fun _ => 0) k)) ∧ Below W.heap.size W w' :=
        fun W p q r s h h' => rms_same p k q _ r s _ W h h' (by omega) (by omega)
      have mk : ∀ (W : World) (g : Nat), W.ownsRow g 38 1 (.slice (some ⟨g, 0, none⟩) k k) k (madeCells (Value.int .i8 0).cells (k * 1)).toList → Reads .i8 W (some ⟨g, 0, none⟩) k ((List.range k).map fun _ => 0) := fun W g h =>
        own_reads_at h (by simp) (fun v hv => by obtain ⟨y, _, rfl⟩ := List.mem_map.1 hv; decide) (fun j hj => by rw [show (Value.int .i8 0).cells = #[.int .i8 0] from rfl, toList_madeCells_one]; simp [hj])
      obtain ⟨A, eA⟩ : ∃ A, (List.range k).map (halfF z0) = A := ⟨_, rfl⟩
      obtain ⟨B, eB⟩ : ∃ B, (List.range k).map (backF z0) = B := ⟨_, rfl⟩
      obtain ⟨D, eD⟩ : ∃ D, ((List.range k).map fun _ => (64 : Int)) = D := ⟨_, rfl⟩
      obtain ⟨N, eN⟩ : ∃ N, ((List.range k).map fun _ => (0 : Int)) = N := ⟨_, rfl⟩
      rw [eA] at rp k1 k3 f1 f2
      rw [eB] at rq k2 f1
      rw [eD] at rr k1 k2 f1
      rw [eN] at k3 mk f2
      obtain ⟨P, eP⟩ : ∃ P, rmsZ A D k = P := ⟨_, rfl⟩
      obtain ⟨Q, eQ⟩ : ∃ Q, rmsZ B D k = Q := ⟨_, rfl⟩
      obtain ⟨Z, eZ⟩ : ∃ Z, rmsZ A N k = Z := ⟨_, rfl⟩
      rw [eP] at k1 f1
      rw [eQ] at k2 f1
      rw [eZ] at k3 f2
      clear eA eB eD eN eP eQ eZ oa ob oc wfm w0 hi hz0 hz1 hz2
      rename World => W2
      go_wp2_with (first
        | (go_at_call 9; refine (k1 _ _ _ _ _ rp rr).mono ?_; rintro e W3 ⟨⟨p3, q3, rfl, r3⟩, hb3⟩; have rp3 := rp.below hb3; have rq3 := rq.below hb3; have rr3 := rr.below hb3; replace hb3 := below_then hbr hb3; clear k1 rp rq rr)
        | (go_at_call 9; refine (k2 _ _ _ _ _ rq3 rr3).mono ?_; rintro e W4 ⟨⟨p4, q4, rfl, r4⟩, hb4⟩; have rp4 := rp3.below hb4; have r34 := r3.below hb4; replace hb4 := below_then hb3 hb4; clear k2 rq3 rr3 rp3 r3)
        | (at_make; refine wpList_make_full _ rfl (.tmp 63) (.tmp 63) 23 rfl W4.heap.size 38 j0 (.int .i8 0) 1 Try.underlying23 hj hy0 hy1 .i64 .i64 _ _ k rfl rfl rfl rfl (by rw [hy2]; omega) (by unfold maxLen; omega) (Nat.le_refl _) ?_; intro W5 hown hgrow; have hb45 : Below W4.heap.size W4 W5 := (Below.refl _ _).grown hgrow (Nat.le_refl _) (fun k h => by cases h); have rn := mk _ _ hown; have rp5 := rp4.below hb45; have r35 := r34.below hb45; have r45 := r4.below hb45; have hb5 := below_then hb4 hb45; clear hown hgrow rp4 r34 r4 hb45)
        | (go_at_call 9; refine (k3 _ _ _ _ _ rp5 rn).mono ?_; rintro e W6 ⟨⟨p6, q6, rfl, r66⟩, hb6⟩; have r36 := r35.below hb6; have r46 := r45.below hb6; replace hb6 := below_then hb5 hb6; clear k3 rp5 rn r35 r45))
      clear hj hy0 hy1 hy2 mk hbr hb3 hb4 hb5
      go_loopw [14] (fun i wr => ∃ l : Nat, l ≤ k ∧ i = .int .i64 l ∧ ∃ m, wr = W6.drewN m) (fun i _ => k - (intOf i).toNat)
      case atStart => exact ⟨0, Nat.zero_le _, rfl, 0, rfl⟩
      case round =>
        obtain ⟨l, hl, rfl, m, hw⟩ := hrel
        have Hw : Hid (wr = W6.drewN m) := hw
        have s3 : Reads .i64 wr p3 k P := by rw [hw]; exact r36.drewN m
        have s4 : Reads .i64 wr p4 k Q := by rw [hw]; exact r46.drewN m
        have s6 : Reads .i64 wr p6 k Z := by rw [hw]; exact r66.drewN m
        clear hw r36 r46 r66
        by_cases hlt : l < k
        · obtain ⟨x3, rfl⟩ := s3.some_ (by omega)
          obtain ⟨x4, rfl⟩ := s4.some_ (by omega)
          obtain ⟨x6, rfl⟩ := s6.some_ (by omega)
          have c3 := s3.cell x3 rfl l hlt
          have c4 := s4.cell x4 rfl l hlt
          have c6 := s6.cell x6 rfl l hlt
          obtain ⟨g1, g2, g3⟩ := f1 l hlt hn
          rw [g1] at c3
          rw [f2 l hlt] at c6
          obtain ⟨Y, eY⟩ : ∃ Y, Q.getD l 0 = Y := ⟨_, rfl⟩
          rw [eY] at c3 c4 g2 g3
          clear f1 f2 g1 eY s3 s4 s6
          have t1 : (-Y == -Y) = true := by simp
          go_wp2
          go_quiet (fail)
          go_wp2
          go_roundw
          case rel => exact ⟨l + 1, by omega, by go_num, _, by rw [Hw.out, World.drewN_drewN]⟩
          case measure => simp [intOf]; omega
        · have e : l = k := by omega
          subst e
          go_wp2
          go_ret
          exact ⟨rfl, below_drew hb6 ⟨_, Hw.out⟩⟩

theorem contract (H : Type) (enc : TypeId × Value → H) (W : World) (base : Nat) (args : Array Value) (ds gs : List (DataW H)) (before : List MemPlace)
    (hval0 : ∀ (j : Nat) t v, Try.f8.params[j]? = some t → args[j]? = some v → Value.okWide Try.prog W .any base t v)
    (hW : DataW.Whole enc Try.prog Try.f8.params.toList Rows.normTurnedSpec.vars false W args.toList ds gs before) :
    Calls Try.prog 8 args W fun e W' => ∃ v, e = .returned v ∧ Rows.normTurnedSpec.post enc Try.prog Try.f8 false true false false W args v W' := by
  have hval : ∀ (j : Nat) t v, Try.f8.params[j]? = some t → args[j]? = some v → Value.okWide Try.prog W .any base t v := hval0
  have hW' := hW
  obtain ⟨p, q, hA0, hV, rfl, hfz, hnd⟩ := hW
  have hA : DataW.TrodAll enc Try.prog W 0 (fun _ => true) true Try.f8.params.toList args.toList ds p := hA0
  rw [Try.params8] at hA hval
  obtain ⟨v0, vs0, d0, ds0, p0, q0, hargs, rfl, rfl, h0, r0⟩ := trodAll_cons hA
  obtain ⟨rfl, rfl, rfl⟩ := trodAll_nil r0
  obtain rfl : args = #[v0] := by cases args; simp_all
  obtain ⟨rfl, rfl⟩ := trodVars_none hV
  obtain ⟨a0, n0, c0, rfl⟩ := okWide_slice Try.underlying22 (hval 0 22 v0 rfl rfl)
  have k0 := h0
  have lt0 : ∀ x ∈ p0, x.block < W.heap.size := by obtain ⟨m, hm⟩ := k0; exact DataW.trod_lt m _ _ _ hm
  obtain ⟨z0, w0, e0, l0, s0⟩ : ∃ zs, Reads .i64 W a0 n0 zs ∧ (a0 = none → c0 = 0) ∧ n0 ≤ c0 ∧ (n0 = 0 ∨ ∃ el sp, d0 = .slice el sp ∧ n0 ≤ el.length + sp.length) := by
    obtain ⟨fuel, hf⟩ := h0
    rcases open_ints Try.underlying22 Try.underlying2 (by kernel_rfl) hf with ⟨hcs, hd⟩ | ⟨x, l, c, zs, hcs, _, hl, hm, hz, hd, hcell, hwz⟩
    · simp [Value.cells] at hcs
      obtain ⟨rfl, rfl, rfl⟩ := hcs
      exact ⟨[], Reads.nil _ _, fun _ => rfl, Nat.le_refl _, .inl rfl⟩
    · simp [Value.cells] at hcs
      obtain ⟨rfl, rfl, rfl⟩ := hcs
      exact ⟨_, Reads.of_open hl hm (by simpa using hz) hcell hwz, (fun h => by cases h), hl, .inr ⟨_, _, congrArg Prod.fst hd, open_length (by simpa using hz) hl⟩⟩
  clear hA0 hval0
  refine (walk a0 n0 c0 z0 W w0 e0 l0).mono fun e W' ⟨he, bel⟩ => ?_
  subst he
  exact ⟨_, rfl, _, _, _, [], _, [], hW', trodAll_mk1 (shut_bool Try.underlying4 _), (trodAll_cons_mk (Below.trod laidOut (by kernel_rfl) (of_decide_eq_true (by kernel_rfl)) k0 bel lt0) trodAll_mk0), rfl, bel.frame _, fun h => by cases h⟩

set_option maxRecDepth 100000 in
theorem lifted (os : Os) (started : os.Started) (H : Type) (enc : TypeId × Value → H) :
    ReturnsInHanded {} Try.checked os 8 .any (Rows.normTurnedSpec.pre6 enc Try.prog Try.f8 Rows.normTurnedRow.domain false) (Rows.normTurnedSpec.post enc Try.prog Try.f8 false true false false) := by
  refine returnsInHanded_of_change (C := Try.checked) own started (by kernel_rfl) Try.func8
    (ChangeSpec.witness6 (enc := enc) (C := Try.checked) false ⟨#[], #[.slice none 0 0], []⟩ 8 (by kernel_rfl) (by kernel_rfl) (by kernel_rfl) (by kernel_rfl)) ?_
  intro W base args ds gs before hval hW _ _
  exact contract H enc W base args ds gs before hval hW

theorem over : Rows.normTurnedRow.holds Try.pinned (OpenSpec.ofChange Rows.normTurnedSpec) :=
  OpenClaim.holds_of_wide 8 Try.f8 rfl rfl rfl rfl rfl rfl rfl ⟨rfl, rfl, rfl, rfl, rfl⟩ rfl rfl rfl rfl rfl (by kernel_rfl) Try.func8 (by kernel_rfl)
    (of_decide_eq_true (by kernel_rfl)) (by unfold Func.isWrapper; first | (rw [if_pos (by decide +kernel)]; kernel_rfl) | (rw [if_neg (by decide +kernel)]; exact ⟨rfl, rfl⟩))
    (fun os started H enc _ => lifted os started H enc)

theorem proved : Rows.NormTurnedSaid :=
  over
#print axioms proved
end Go.Proofs.Ytdpodanhokihlaa.normTurned
