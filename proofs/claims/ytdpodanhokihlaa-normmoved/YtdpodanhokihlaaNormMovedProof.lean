/- For every row of at most 1000 numbers (each taken modulo 2^30) and every number (so taken too), the same number more for all members changes no share of the program's Soft; and the program's Mean of that row, standing from one to twenty times, is the row, clamped, without an error; for longer rows nothing is asked but the examples. -/
import Derived.Test.YtdpodanhokihlaaRows
import Derived.Test.YtdpodanhokihlaaSat
import Derived.Test.YtdpodanhokihlaaSatRef
import Derived.Test.YtdpodanhokihlaaAdds
import Derived.Test.YtdpodanhokihlaaView
import Derived.Test.YtdpodanhokihlaaOwn
import Derived.Test.YtdpodanhokihlaaSteps
import Derived.Test.YtdpodanhokihlaaWhere
import Derived.Test.YtdpodanhokihlaaQuad
import Derived.Test.YtdpodanhokihlaaExp
import Derived.Test.YtdpodanhokihlaaSoft
import Derived.Test.YtdpodanhokihlaaSoftRef
import Derived.Test.YtdpodanhokihlaaWorks
import Derived.Test.YtdpodanhokihlaaRms
import Derived.Test.YtdpodanhokihlaaMean
import Derived.Test.YtdpodanhokihlaaGrids
import Derived.Test.YtdpodanhokihlaaSame
import Derived.Test.YtdpodanhokihlaaLooks
import Derived.Test.YtdpodanhokihlaaMoved
import Derived.WalkKit
import Derived.ProofKit
import Derived.OpenShut
import Derived.ChangeOld
import Derived.Below
import Derived.WalkLawsBesides
namespace Go.Proofs.Ytdpodanhokihlaa.normMoved
open Go.ChangeShapes Go.WideShapes Go.ChangeAt Go.RowKit
set_option linter.unusedVariables false
set_option linter.unusedSimpArgs false

theorem own : ownKnob Try.prog.godebug = none := by kernel_rfl
theorem laidOut : laidOutB Try.prog = true := by kernel_rfl

theorem slice_oneCell (a : Option Addr) (n c : Nat) : ∀ u ∈ [Value.slice a n c], u.oneCell' = true := by
  intro u hu
  simp at hu
  subst hu
  rfl

theorem rest20 (x : Int) : ∃ M : Nat, M < 20 ∧ (IntKind.u64.wrap x).tmod 20 = (M : Int) ∧ IntKind.u64.wrap x % 20 = (M : Int) := by
  have b : 0 ≤ IntKind.u64.wrap x := by rw [IntKind.wrap_u64]; omega
  generalize IntKind.u64.wrap x = U at *
  exact ⟨(U % 20).toNat, by omega, by rw [Int.tmod_eq_emod_of_nonneg b]; omega, by omega⟩

set_option maxHeartbeats 4000000 in
set_option maxRecDepth 20000 in
theorem walk (a0 : Option Addr) (n0 c0 : Nat) (z0 : List Int) (a1 : Int) (a2 : Int) (w : World) (w0 : Reads .i64 w a0 n0 z0) (e0 : a0 = none → c0 = 0) (l0 : n0 ≤ c0) (w1 : (Lit.int .i64 a1).wf = true) (w2 : (Lit.int .i64 a2).wf = true) :
    Calls Try.prog 7 #[.slice a0 n0 c0, .int .i64 a1, .int .i64 a2] w fun e w' => e = .returned (.bool true) ∧ Below w.heap.size w w' := by
  obtain ⟨i0, hi, hz0, hz1, hz2⟩ := info_parts info2
  obtain ⟨j0, hj, hy0, hy1, hy2⟩ := info_parts info22
  have hm := w0.max
  obtain ⟨B, eB⟩ : ∃ B, a1.tmod 1073741824 = B := ⟨_, rfl⟩
  have bB := part_bounds a1
  rw [eB] at bB
  obtain ⟨bB0, bB1⟩ := bB
  by_cases s0 : 1000 < n0
  · have s1 : (1000 : Int) < (n0 : Int) := by omega
    go_enter Try.func7, Try.ntmps7
    go_wp2_with (go_at_call 16; refine (works_call _).mono ?_; rintro e W1 ⟨rfl, hb1⟩)
    go_ret
    exact ⟨rfl, hb1⟩
  have hn : n0 ≤ 1000 := by omega
  go_enter Try.func7, Try.ntmps7
  go_wp2_with (go_at_call 16; refine (works_call _).mono ?_; rintro e W1 ⟨rfl, hb1⟩)
  go_loopw [7, 8, 9, 10] (fun p q r i wr => ∃ k : Nat, k ≤ n0 ∧ i = .int .i64 k ∧ Below w.heap.size w wr ∧ Quad w.heap.size wr ⟨2, p, k, gath (partF z0) .i64 k⟩ ⟨2, q, k, gath (moreF z0 B) .i64 k⟩ ⟨2, r, k, gath (clampF z0) .i64 k⟩ ⟨2, .slice none 0 0, 0, []⟩)
    (fun _ _ _ i _ => n0 - (intOf i).toNat)
  case atStart => exact ⟨0, Nat.zero_le _, rfl, hb1, Quad.nil _ _ _ _ _ _ _ _ _ _ rfl rfl rfl rfl⟩
  case round =>
    obtain ⟨k, hk, rfl, hbr, hq⟩ := hrel
    clear hb1
    by_cases hlt : k < n0
    · obtain ⟨x0, rfl⟩ := w0.some_ (by omega)
      obtain ⟨X, eX⟩ : ∃ X, z0.getD k 0 = X := ⟨_, rfl⟩
      have C0 : ∀ W, Below w.heap.size w W → W.cell? (x0.add k) = some (.int .i64 X) := fun W hb => by rw [← eX]; exact (w0.below hb).cell x0 rfl k hlt
      obtain ⟨V, eV⟩ : ∃ V, X.tmod 1073741824 = V := ⟨_, rfl⟩
      have bV := part_bounds X
      rw [eV] at bV
      obtain ⟨bV0, bV1⟩ := bV
      have E0 : Hid (V = partF z0 k) := by show _ = _; unfold partF; rw [eX, eV]
      have E1 : Hid (V + B = moreF z0 B k) := by show _ = _; unfold moreF partF; rw [eX, eV]
      have E2 : Hid (clampZ X = clampF z0 k) := by show _ = _; unfold clampF; rw [eX]
      have c0 := C0 _ hbr
      have hsz := hbr.size
      clear eX w0
      go_wp2_with (first
        | (at_builtin; refine wpList_append_where rfl (.tmp 34) (.tmp 36) 22 rfl w.heap.size 2 i0 (.int .i64 0) 8 Try.underlying22 hi hz0 hz1 hz2 rfl _ k _ rfl (hq.oa.alloc _) ⟨_, 0, none⟩ 1 (.int .i64 V) rfl (one_new _ _ _) (one_oneCell _ _) (by unfold maxLen; omega) (by omega) (below_new hbr _).size ?_; intro p' W4 ho4 hg4 hs4; have hb4 := below_append (below_new hbr _) (hq.oa.alloc _) hg4; have hq4 := ((hq.alloc _).app ho4 hg4 hs4).rot; clear ho4 hg4 hs4 hq)
        | (at_builtin; refine wpList_append_where rfl (.tmp 38) (.tmp 42) 22 rfl w.heap.size 2 i0 (.int .i64 0) 8 Try.underlying22 hi hz0 hz1 hz2 rfl _ k _ rfl (hq4.oa.alloc _) ⟨_, 0, none⟩ 1 (.int .i64 (V + B)) rfl (one_new _ _ _) (one_oneCell _ _) (by unfold maxLen; omega) (by omega) (below_new hb4 _).size ?_; intro q' W5 ho5 hg5 hs5; have hb5 := below_append (below_new hb4 _) (hq4.oa.alloc _) hg5; have hq5 := ((hq4.alloc _).app ho5 hg5 hs5).rot; have c5 := C0 W5 hb5; clear ho5 hg5 hs5 hq4)
        | (go_at_call 17; refine (refClamp_call _ _).mono ?_; rintro e w' ⟨rfl, h⟩; obtain rfl := h.symm)
        | (at_builtin; refine wpList_append_where rfl (.tmp 44) (.tmp 50) 22 rfl w.heap.size 2 i0 (.int .i64 0) 8 Try.underlying22 hi hz0 hz1 hz2 rfl _ k _ rfl (hq5.oa.alloc _) ⟨_, 0, none⟩ 1 (.int .i64 (clampZ X)) rfl (one_new _ _ _) (one_oneCell _ _) (by unfold maxLen; omega) (by omega) (below_new hb5 _).size ?_; intro r' W6 ho6 hg6 hs6; have hb6 := below_append (below_new hb5 _) (hq5.oa.alloc _) hg6; have hq6 := ((hq5.alloc _).app ho6 hg6 hs6).rot.rot; clear ho6 hg6 hs6 hq5))
      go_roundw
      case rel =>
        refine ⟨k + 1, by omega, by go_num, hb6, ?_⟩
        simp only [gath_succ]
        rw [← E0.out, ← E1.out, ← E2.out]
        exact hq6
      case measure => simp [intOf]; omega
    · have e : k = n0 := by omega
      subst e
      have oa := hq.oa
      have ob := hq.ob
      have oc := hq.oc
      dsimp only at oa ob oc
      clear hq
      have wfm : ∀ F : Nat → Int, (∀ j, -9223372036854775808 ≤ F j ∧ F j ≤ 9223372036854775807) → ∀ v ∈ (List.range k).map F, (Lit.int .i64 v).wf = true := fun F h v hv => by obtain ⟨y, _, rfl⟩ := List.mem_map.1 hv; exact WalkArith.wf_i64 (h y)
      obtain ⟨pa, ca, rfl, rp⟩ := own_reads (k := .i64) (zs := (List.range k).map (partF z0)) oa (by simp) (wfm _ fun j => by have := part_bounds (z0.getD j 0); unfold partF; omega) (fun j hj => by rw [gath_at _ _ _ _ hj]; simp [hj])
      obtain ⟨pb, cb, rfl, rq⟩ := own_reads (k := .i64) (zs := (List.range k).map (moreF z0 B)) ob (by simp) (wfm _ fun j => by have := part_bounds (z0.getD j 0); unfold moreF partF; omega) (fun j hj => by rw [gath_at _ _ _ _ hj]; simp [hj])
      obtain ⟨pc, cc, rfl, rr⟩ := own_reads (k := .i64) (zs := (List.range k).map (clampF z0)) oc (by simp) (wfm _ fun j => by have := clampZ_bounds (z0.getD j 0); unfold clampF; omega) (fun j hj => by rw [gath_at _ _ _ _ hj]; simp [hj])
      obtain ⟨L, eL⟩ : ∃ L, softZ ((List.range k).map (partF z0)) k = L := ⟨_, rfl⟩
      have ks1 : ∀ W, Reads .i64 W pa k ((List.range k).map (partF z0)) → Calls Try.prog 12 #[.slice pa k ca] W fun e w' => (∃ a c, e = .returned (.slice a k c) ∧ Reads .i64 w' a k L) ∧ Below W.heap.size W w' := fun W h => by
        rw [← eL]; exact soft_call _ _ _ _ _ h (by omega)
      have ks2 : ∀ W, Reads .i64 W pb k ((List.range k).map (moreF z0 B)) → Calls Try.prog 12 #[.slice pb k cb] W fun e w' => (∃ a c, e = .returned (.slice a k c) ∧ Reads .i64 w' a k L) ∧ Below W.heap.size W w' := fun W h => by
        rw [← eL, ← soft_more z0 k B bB0 bB1]; exact soft_call _ _ _ _ _ h (by omega)
      obtain ⟨M, hM, eM1, eM2⟩ := rest20 a2
      clear eL oa ob oc wfm eB
      rename World => W2
      go_wp2_with (first
        | (go_at_call 12; refine (ks1 _ rp).mono ?_; rintro e W3 ⟨⟨p3, q3, rfl, r3⟩, hb3⟩; have rq3 := rq.below hb3; have rr3 := rr.below hb3; replace hb3 := below_then hbr hb3; clear ks1 rp rq rr)
        | (go_at_call 12; refine (ks2 _ rq3).mono ?_; rintro e W4 ⟨⟨p4, q4, rfl, r4⟩, hb4⟩; replace r3 := r3.below hb4; have rr4 := rr3.below hb4; replace hb4 := below_then hb3 hb4; clear ks2 rq3 rr3)
        | (go_at_call 11; refine (same_call _ _ _ L _ _ _ _ r3 r4).mono ?_; rintro e W5 ⟨rfl, hd5⟩; have hb5 := below_drew hb4 hd5; have rr5 := rr4.below (below_drew (Below.refl _ _) hd5); clear r3 r4 rr4 hd5))
      have lz : z0.length = k := w0.len
      have w5 := w0.below hb5
      clear hbr hb3 hb4
      go_loopw [12, 13] (fun v i wr => ∃ l : Nat, l ≤ M + 1 ∧ i = .int .i64 l ∧ Below W5.heap.size W5 wr ∧ OwnGrid W5.heap.size wr v l (fun _ => a0) (fun _ => c0) (fun _ => z0)) (fun _ i _ => M + 1 - (intOf i).toNat)
      case atStart => exact ⟨0, Nat.zero_le _, rfl, Below.refl _ _, OwnGrid.nil _ _ _ _ _⟩
      case round =>
        obtain ⟨l, hl, rfl, hbl, og⟩ := hrel
        by_cases hlt : l ≤ M
        · have own := og.own
          have Eg : Hid (heads (fun _ => a0) (fun _ => c0) (fun _ => z0) l = heads (fun _ => a0) (fun _ => c0) (fun _ => z0) l) := rfl
          clear hi hz0 hz1 hz2
          go_wp2_with (at_builtin; refine wpList_append_where rfl (.tmp 66) (.tmp 68) 31 rfl W5.heap.size 22 j0 (.slice none 0 0) 24 Try.underlying31 hj hy0 hy1 hy2 rfl _ l _ rfl (own.alloc _) ⟨_, 0, none⟩ 1 (.slice a0 k c0) rfl (one_new _ _ _) (slice_oneCell _ _ _) (by unfold maxLen; omega) (by omega) (below_new hbl _).size ?_; intro v2 W6 ho2 hg2 hs2)
          go_roundw
          case rel =>
            have bn := below_new (Below.refl wr.heap.size wr) (Obj.cells #[Value.slice a0 k c0] 22)
            have g2 := (og.below bn).app (p := a0) (c := c0) (V := .slice a0 k c0) (by rw [lz]) (by rw [lz]; exact (w5.below hbl).below bn) ?_ ho2 hg2 hs2
            · exact ⟨l + 1, by omega, by go_num, below_append (below_new hbl _) (own.alloc _) hg2, by simpa only [ite_self] using g2⟩
            · intro h0 y hy g hg e
              have l1 := (og.own.lt g hg).1
              have l2 := World.block_lt_of_cell? W5 _ (w5.cell y hy 0 (by rw [← lz]; exact h0))
              rw [Addr.add_zero'] at l2
              omega
          case measure => simp [intOf]; omega
        · have e : l = M + 1 := by omega
          obtain ⟨p, q, rfl, gr⟩ := og.grid
          have km : Calls Try.prog 14 #[.slice p l q] wr fun e w' => (∃ a c, e = .returned (.tuple #[.slice a k c, .int .i64 0]) ∧ Reads .i64 w' a k ((List.range k).map (clampF z0))) ∧ Below wr.heap.size wr w' := by
            subst e
            have := mean_even p (M + 1) q _ _ _ wr gr ⟨by omega, fun _ _ => rfl⟩ (by omega)
            rw [lz] at this
            rwa [List.map_congr_left (g := clampF z0) (fun j _ => mean_same z0 M j hM)] at this
          have rc := rr5.below hbl
          obtain ⟨Cl, eCl⟩ : ∃ Cl, (List.range k).map (clampF z0) = Cl := ⟨_, rfl⟩
          rw [eCl] at rc km
          clear eCl
          have hend := below_then hb5 hbl
          have hlM : ¬ (l : Int) ≤ (M : Int) := by omega
          clear e hl hlt og gr hbl rr5 hi hz0 hz1 hz2 hj hy0 hy1 hy2
          go_wp2_with (first
            | (go_at_call 14; refine km.mono ?_; rintro e W7 ⟨⟨p7, q7, rfl, r7⟩, hb7⟩; have rc7 := rc.below hb7; have hend7 := below_then hend hb7; clear rc hend hb7 km)
            | (go_at_call 11; refine (same_call _ _ _ Cl _ _ _ _ r7 rc7).mono ?_; rintro e W8 ⟨rfl, hb8⟩; replace hb8 := below_drew hend7 hb8; clear r7 rc7))
          go_ret
          exact ⟨rfl, by assumption⟩

theorem contract (H : Type) (enc : TypeId × Value → H) (W : World) (base : Nat) (args : Array Value) (ds gs : List (DataW H)) (before : List MemPlace)
    (hval0 : ∀ (j : Nat) t v, Try.f7.params[j]? = some t → args[j]? = some v → Value.okWide Try.prog W .any base t v)
    (hW : DataW.Whole enc Try.prog Try.f7.params.toList Rows.normMovedSpec.vars false W args.toList ds gs before) :
    Calls Try.prog 7 args W fun e W' => ∃ v, e = .returned v ∧ Rows.normMovedSpec.post enc Try.prog Try.f7 false true false false W args v W' := by
  have hval : ∀ (j : Nat) t v, Try.f7.params[j]? = some t → args[j]? = some v → Value.okWide Try.prog W .any base t v := hval0
  have hW' := hW
  obtain ⟨p, q, hA0, hV, rfl, hfz, hnd⟩ := hW
  have hA : DataW.TrodAll enc Try.prog W 0 (fun _ => true) true Try.f7.params.toList args.toList ds p := hA0
  rw [Try.params7] at hA hval
  obtain ⟨v0, vs0, d0, ds0, p0, q0, hargs, rfl, rfl, h0, r0⟩ := trodAll_cons hA
  obtain ⟨v1, vs1, d1, ds1, p1, q1, rfl, rfl, rfl, h1, r1⟩ := trodAll_cons r0
  obtain ⟨v2, vs2, d2, ds2, p2, q2, rfl, rfl, rfl, h2, r2⟩ := trodAll_cons r1
  obtain ⟨rfl, rfl, rfl⟩ := trodAll_nil r2
  obtain rfl : args = #[v0, v1, v2] := by cases args; simp_all
  obtain ⟨rfl, rfl⟩ := trodVars_none hV
  obtain ⟨a0, n0, c0, rfl⟩ := okWide_slice Try.underlying22 (hval 0 22 v0 rfl rfl)
  have k0 := h0
  have lt0 : ∀ x ∈ p0, x.block < W.heap.size := by obtain ⟨m, hm⟩ := k0; exact DataW.trod_lt m _ _ _ hm
  obtain ⟨z0, w0, e0, l0, s0⟩ : ∃ zs, Reads .i64 W a0 n0 zs ∧ (a0 = none → c0 = 0) ∧ n0 ≤ c0 ∧ (n0 = 0 ∨ ∃ el sp, d0 = .slice el sp ∧ n0 ≤ el.length + sp.length) := by
    obtain ⟨fuel, hf⟩ := h0
    rcases open_ints Try.underlying22 Try.underlying2 (by kernel_rfl) hf with ⟨hcs, hd⟩ | ⟨x, l, c, zs, hcs, _, hl, hm, hz, hd, hcell, hwz⟩
    · simp [Value.cells] at hcs
      obtain ⟨rfl, rfl, rfl⟩ := hcs
      exact ⟨[], Reads.nil _ _, fun _ => rfl, Nat.le_refl _, .inl rfl⟩
    · simp [Value.cells] at hcs
      obtain ⟨rfl, rfl, rfl⟩ := hcs
      exact ⟨_, Reads.of_open hl hm (by simpa using hz) hcell hwz, (fun h => by cases h), hl, .inr ⟨_, _, congrArg Prod.fst hd, open_length (by simpa using hz) hl⟩⟩
  obtain ⟨a1, rfl, rfl, rfl, w1⟩ := open_int Try.underlying2 (hval 1 2 v1 rfl rfl) h1
  obtain ⟨a2, rfl, rfl, rfl, w2⟩ := open_int Try.underlying3 (hval 2 3 v2 rfl rfl) h2
  clear hA0 hval0
  refine (walk a0 n0 c0 z0 a1 a2 W w0 e0 l0 w1 w2).mono fun e W' ⟨he, bel⟩ => ?_
  subst he
  exact ⟨_, rfl, _, _, _, [], _, [], hW', trodAll_mk1 (shut_bool Try.underlying4 _), (trodAll_cons_mk (Below.trod laidOut (by kernel_rfl) (of_decide_eq_true (by kernel_rfl)) k0 bel lt0) (trodAll_cons_mk (shut_int Try.underlying2 w1) (trodAll_cons_mk (shut_int Try.underlying3 w2) trodAll_mk0))), rfl, bel.frame _, fun h => by cases h⟩

set_option maxRecDepth 100000 in
theorem lifted (os : Os) (started : os.Started) (H : Type) (enc : TypeId × Value → H) :
    ReturnsInHanded {} Try.checked os 7 .any (Rows.normMovedSpec.pre6 enc Try.prog Try.f7 Rows.normMovedRow.domain false) (Rows.normMovedSpec.post enc Try.prog Try.f7 false true false false) := by
  refine returnsInHanded_of_change (C := Try.checked) own started (by kernel_rfl) Try.func7
    (ChangeSpec.witness6 (enc := enc) (C := Try.checked) false ⟨#[], #[.slice none 0 0, .int .i64 0, .int .i64 0], []⟩ 8 (by kernel_rfl) (by kernel_rfl) (by kernel_rfl) (by kernel_rfl)) ?_
  intro W base args ds gs before hval hW _ _
  exact contract H enc W base args ds gs before hval hW

theorem over : Rows.normMovedRow.holds Try.pinned (OpenSpec.ofChange Rows.normMovedSpec) :=
  OpenClaim.holds_of_wide 7 Try.f7 rfl rfl rfl rfl rfl rfl rfl ⟨rfl, rfl, rfl, rfl, rfl⟩ rfl rfl rfl rfl rfl (by kernel_rfl) Try.func7 (by kernel_rfl)
    (of_decide_eq_true (by kernel_rfl)) (by unfold Func.isWrapper; first | (rw [if_pos (by decide +kernel)]; kernel_rfl) | (rw [if_neg (by decide +kernel)]; exact ⟨rfl, rfl⟩))
    (fun os started H enc _ => lifted os started H enc)

theorem proved : Rows.NormMovedSaid :=
  over
#print axioms proved
end Go.Proofs.Ytdpodanhokihlaa.normMoved
