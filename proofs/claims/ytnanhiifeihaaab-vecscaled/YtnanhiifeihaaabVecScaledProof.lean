/- For every row of at most 1000 numbers: scaled by one it is clamped alone, scaled by nought it is nought, and its sum with its own turned signs (each number taken modulo 2^30) is nought, without an error; for all others nothing is asked but the examples. -/
import Derived.Test.YtnanhiifeihaaabRows
import Derived.Test.YtnanhiifeihaaabSat
import Derived.Test.YtnanhiifeihaaabAdds
import Derived.Test.YtnanhiifeihaaabView
import Derived.Test.YtnanhiifeihaaabOwn
import Derived.Test.YtnanhiifeihaaabDots
import Derived.Test.YtnanhiifeihaaabDotsRef
import Derived.Test.YtnanhiifeihaaabScale
import Derived.Test.YtnanhiifeihaaabFits
import Derived.Test.YtnanhiifeihaaabMats
import Derived.Test.YtnanhiifeihaaabWorks
import Derived.Test.YtnanhiifeihaaabSums
import Derived.Test.YtnanhiifeihaaabPlain
import Derived.Test.YtnanhiifeihaaabWhere
import Derived.WalkKit
import Derived.Deep.QuietTactic
import Derived.BigQuiet
import Derived.ProofKit
import Derived.OpenShut
import Derived.ChangeOld
import Derived.Below
import Derived.WalkLawsBesides
namespace Go.Proofs.Ytnanhiifeihaaab.vecScaled
open Go.ChangeShapes Go.WideShapes Go.ChangeAt Go.RowKit
set_option linter.unusedVariables false
set_option linter.unusedSimpArgs false

theorem own : ownKnob Try.prog.godebug = none := by kernel_rfl
theorem laidOut : laidOutB Try.prog = true := by kernel_rfl

theorem shift16_one (c : Int) : shiftZ (c * 65536) 16 = c := by
  unfold shiftZ shN
  rw [if_neg (by decide), show min (16 : Int) 62 = 16 by decide, show (2 : Int) ^ ((16 : Int).toNat - 1) = 32768 by decide]
  split <;> omega

theorem mul_one_ (x : Int) : mulZ x 65536 = clampZ x := by
  have b := clampZ_bounds x
  unfold mulZ
  rw [show clampZ 65536 = 65536 by decide, wrap64_eq, show (clampZ x * 65536 + 9223372036854775808) % 18446744073709551616 - 9223372036854775808 = clampZ x * 65536 by omega, shift16_one]
  generalize clampZ x = c at b
  unfold clampZ
  rw [if_neg (by omega), if_neg (by omega)]

theorem mul_nought (x : Int) : mulZ x 0 = 0 := by
  unfold mulZ
  rw [show clampZ 0 = 0 by decide, Int.mul_zero]
  decide +kernel

def remF (z : List Int) (j : Nat) : Int := (z.getD j 0).tmod 1073741824
def negF (z : List Int) (j : Nat) : Int := -(z.getD j 0).tmod 1073741824

theorem rem_bounds (x : Int) : -1073741824 < x.tmod 1073741824 ∧ x.tmod 1073741824 < 1073741824 := by
  rw [Int.tmod_eq_emod]
  split <;> omega

theorem plus_nought (z : List Int) (n j : Nat) (h : j < n) : plusZ ((List.range n).map (remF z)) ((List.range n).map (negF z)) j = 0 := by
  have e1 : ((List.range n).map (remF z)).getD j 0 = remF z j := by simp [List.getD, h]
  have e2 : ((List.range n).map (negF z)).getD j 0 = negF z j := by simp [List.getD, h]
  have b := rem_bounds (z.getD j 0)
  unfold plusZ
  rw [e1, e2]
  unfold remF negF
  generalize (z.getD j 0).tmod 1073741824 = T at *
  rw [clampZ_in T (by omega) (by omega), clampZ_in (-T) (by omega) (by omega), show T + -T = 0 by omega]
  decide

theorem map_at (F : Nat → Int) (n j : Nat) (h : j < n) : ((List.range n).map F).getD j 0 = F j := by simp [List.getD, h]


set_option maxHeartbeats 2000000 in
theorem walk (a0 : Option Addr) (n0 c0 : Nat) (z0 : List Int) (w : World) (w0 : Reads .i64 w a0 n0 z0) (e0 : a0 = none → c0 = 0) (l0 : n0 ≤ c0) :
    Calls Try.prog 3 #[.slice a0 n0 c0] w fun e w' => e = .returned (.bool true) ∧ Below w.heap.size w w' := by
  have hm := w0.max
  by_cases s0 : 1000 < n0
  · have s1 : (1000 : Int) < (n0 : Int) := by omega
    go_enter Try.func3, Try.ntmps3
    go_wp2_with (go_at_call 5; refine (works_call _).mono ?_; rintro e W1 ⟨rfl, hb1⟩)
    go_ret
    exact ⟨rfl, hb1⟩
  obtain ⟨i0, hi, hz0, hz1, hz2⟩ := info_parts info2
  have k1 : ∀ W, Reads .i64 W a0 n0 z0 → Calls Try.prog 6 #[.slice a0 n0 c0, .int .i64 65536] W fun e w' => (∃ a c, e = .returned (.slice a n0 c) ∧ Reads .i64 w' a n0 (z0.map fun x => mulZ x 65536)) ∧ Below W.heap.size W w' := fun W h => scale_call _ _ _ _ _ _ h (by decide) (by omega)
  have k2 : ∀ W, Reads .i64 W a0 n0 z0 → Calls Try.prog 6 #[.slice a0 n0 c0, .int .i64 0] W fun e w' => (∃ a c, e = .returned (.slice a n0 c) ∧ Reads .i64 w' a n0 (z0.map fun x => mulZ x 0)) ∧ Below W.heap.size W w' := fun W h => scale_call _ _ _ _ _ _ h (by decide) (by omega)
  go_enter Try.func3, Try.ntmps3
  go_wp2_with (first
    | (go_at_call 5; refine (works_call _).mono ?_; rintro e W1 ⟨rfl, hb1⟩)
    | (go_at_call 6; refine (k1 _ (w0.below hb1)).mono ?_; rintro e W2 ⟨⟨p1, q1, rfl, r1⟩, hb2⟩; replace hb2 := below_then hb1 hb2; clear k1)
    | (go_at_call 6; refine (k2 _ (w0.below hb2)).mono ?_; rintro e W3 ⟨⟨p2, q2, rfl, r2⟩, hb3⟩; replace r1 := r1.below hb3; replace hb3 := below_then hb2 hb3; clear k2))
  have r0 := w0.below hb3
  clear w0 hb1 hb2
  go_loopw [5, 6, 7] (fun a b i wr => ∃ k : Nat, k ≤ n0 ∧ i = .int .i64 k ∧ Below W3.heap.size W3 wr ∧ wr.ownsRow W3.heap.size 2 1 a k (gath (remF z0) .i64 k) ∧ wr.ownsRow W3.heap.size 2 1 b k (gath (negF z0) .i64 k) ∧ Apart a b) (fun _ _ i _ => n0 - (intOf i).toNat)
  case atStart => exact ⟨0, Nat.zero_le _, rfl, Below.refl _ _, World.ownsRow_nil _ _ _ _, World.ownsRow_nil _ _ _ _, Apart.nil _⟩
  case round =>
    obtain ⟨k, hk, rfl, hbr, hoa, hob, hap⟩ := hrel
    by_cases hlt : k < n0
    · have hr := r0.below hbr
      obtain ⟨x, rfl⟩ := r0.some_ (by omega)
      have cx := hr.cell x rfl k hlt
      have hsz := hbr.size
      have bv := rem_bounds (z0.getD k 0)
      obtain ⟨X, eX⟩ : ∃ X, z0.getD k 0 = X := ⟨_, rfl⟩
      rw [eX] at cx bv
      obtain ⟨V, eV⟩ : ∃ V, X.tmod 1073741824 = V := ⟨_, rfl⟩
      rw [eV] at bv
      have Ea : Hid (V = remF z0 k) := by show _ = _; unfold remF; rw [eX, eV]
      have Eb : Hid (-V = negF z0 k) := by show _ = _; unfold negF; rw [eX, eV]
      clear eX hr r1 r2
      go_wp2_with (first
        | (at_builtin; refine wpList_append_where rfl (.tmp 32) (.tmp 34) 22 rfl W3.heap.size 2 i0 (.int .i64 0) 8 Try.underlying22 hi hz0 hz1 hz2 rfl _ _ _ rfl (hoa.alloc _) ⟨_, 0, none⟩ 1 (.int .i64 V) rfl (one_new _ _ _) (one_oneCell _ _) (by unfold maxLen; omega) (by omega) (by simp; omega) ?_; intro a' W4 ho4 hg4 hs4; have hb4 := below_append (below_new hbr _) (hoa.alloc _) hg4; have ob4 := other_kept (v' := a') (hob.alloc _) hap.symm hg4; have ap4 := other_apart (hob.alloc _) hap.symm hs4; have hsz4 := hb4.size; clear hg4 hs4 hoa hob hap)
        | (at_builtin; refine wpList_append_where rfl (.tmp 36) (.tmp 39) 22 rfl W3.heap.size 2 i0 (.int .i64 0) 8 Try.underlying22 hi hz0 hz1 hz2 rfl _ _ _ rfl (ob4.alloc _) ⟨_, 0, none⟩ 1 (.int .i64 (-V)) rfl (one_new _ _ _) (one_oneCell _ _) (by unfold maxLen; omega) (by omega) (by simp; omega) ?_; intro b' W5 ho5 hg5 hs5; have hb5 := below_append (below_new hb4 _) (ob4.alloc _) hg5; have oa5 := other_kept (v' := b') (ho4.alloc _) ap4.symm hg5; have ap5 := other_apart (ho4.alloc _) ap4.symm hs5; clear hg5 hs5 ho4 ob4 ap4))
      go_roundw
      case rel => exact ⟨k + 1, by omega, by go_num, hb5, by rw [gath_succ, ← Ea.out]; exact oa5, by rw [gath_succ, ← Eb.out]; exact ho5, ap5⟩
      case measure => simp [intOf]; omega
    · have e : k = n0 := by omega
      subst e
      obtain ⟨pa, ca, rfl, ra⟩ := own_reads (zs := (List.range k).map (remF z0)) hoa (by simp) (fun z hz => by obtain ⟨y, _, rfl⟩ := List.mem_map.1 hz; have := rem_bounds (z0.getD y 0); exact WalkArith.wf_i64 ⟨by unfold remF; omega, by unfold remF; omega⟩) (fun j hj => by rw [gath_at _ _ _ _ hj]; simp [hj])
      obtain ⟨pb, cb, rfl, rb⟩ := own_reads (zs := (List.range k).map (negF z0)) hob (by simp) (fun z hz => by obtain ⟨y, _, rfl⟩ := List.mem_map.1 hz; have := rem_bounds (z0.getD y 0); exact WalkArith.wf_i64 ⟨by unfold negF; omega, by unfold negF; omega⟩) (fun j hj => by rw [gath_at _ _ _ _ hj]; simp [hj])
      have kA := add4_same pa k ca _ pb cb _ wr ra rb (by omega)
      have q0 := r0.below hbr
      have q1' := r1.below hbr
      have q2' := r2.below hbr
      have hb6 := below_then hb3 hbr
      clear hoa hob hap ra rb r0 r1 r2 hi hz0 hz1 hz2
      go_wp2_with (go_at_call 7; refine kA.mono ?_; rintro e W6 ⟨⟨ps, cs, rfl, rs⟩, hw6⟩; clear kA)
      replace q0 := q0.below hw6
      replace q1' := q1'.below hw6
      replace q2' := q2'.below hw6
      replace hb6 := below_then hb6 hw6
      clear hw6 hbr hb3
      go_loopw [11] (fun i wr => ∃ j : Nat, j ≤ k ∧ i = .int .i64 j ∧ ∃ m, wr = W6.drewN m) (fun i _ => k - (intOf i).toNat)
      case atStart => exact ⟨0, Nat.zero_le _, rfl, 0, rfl⟩
      case round =>
        obtain ⟨j, hj, rfl, m, hw⟩ := hrel
        by_cases hlt : j < k
        · obtain ⟨x, rfl⟩ := q0.some_ (by omega)
          obtain ⟨y1, rfl⟩ := q1'.some_ (by omega)
          obtain ⟨y2, rfl⟩ := q2'.some_ (by omega)
          obtain ⟨y3, rfl⟩ := rs.some_ (by omega)
          have cx : wr.cell? (x.add j) = some (.int .i64 (z0.getD j 0)) := by rw [hw]; exact q0.cell x rfl j hlt
          have c1 : wr.cell? (y1.add j) = some (.int .i64 ((z0.map fun x => mulZ x 65536).getD j 0)) := by rw [hw]; exact q1'.cell y1 rfl j hlt
          have c2 : wr.cell? (y2.add j) = some (.int .i64 ((z0.map fun x => mulZ x 0).getD j 0)) := by rw [hw]; exact q2'.cell y2 rfl j hlt
          have c3 : wr.cell? (y3.add j) = some (.int .i64 (((List.range k).map (plusZ ((List.range k).map (remF z0)) ((List.range k).map (negF z0)))).getD j 0)) := by rw [hw]; exact rs.cell y3 rfl j hlt
          rw [map_getD _ _ _ (by rw [q0.len]; exact hlt), mul_one_] at c1
          rw [map_getD _ _ _ (by rw [q0.len]; exact hlt), mul_nought] at c2
          rw [map_at _ _ _ hlt, plus_nought _ _ _ hlt] at c3
          have Hw : Hid (wr = W6.drewN m) := hw
          clear hw q0 q1' q2' rs
          generalize z0.getD j 0 = X at cx c1
          rcases (show X < -2147483648 ∨ X = -2147483648 ∨ (-2147483648 < X ∧ X < 2147483647) ∨ X = 2147483647 ∨ 2147483647 < X by omega) with hX | hX | hX | hX | hX
          · rw [show clampZ X = -2147483648 by unfold clampZ; rw [if_pos hX]] at c1
            go_wp2
            go_quiet (fail)
            go_wp2
            go_roundw
            case rel => exact ⟨j + 1, by omega, by go_num, _, by rw [Hw.out, World.drewN_drewN]⟩
            case measure => simp [intOf]; omega
          · subst hX
            rw [show clampZ (-2147483648) = -2147483648 by decide] at c1
            go_wp2
            go_quiet (fail)
            go_wp2
            go_roundw
            case rel => exact ⟨j + 1, by omega, by go_num, _, by rw [Hw.out, World.drewN_drewN]⟩
            case measure => simp [intOf]; omega
          · rw [clampZ_in X (by omega) (by omega)] at c1
            obtain ⟨hX1, hX2⟩ := hX
            go_wp2
            go_quiet (fail)
            go_wp2
            go_roundw
            case rel => exact ⟨j + 1, by omega, by go_num, _, by rw [Hw.out, World.drewN_drewN]⟩
            case measure => simp [intOf]; omega
          · subst hX
            rw [show clampZ 2147483647 = 2147483647 by decide] at c1
            go_wp2
            go_quiet (fail)
            go_wp2
            go_roundw
            case rel => exact ⟨j + 1, by omega, by go_num, _, by rw [Hw.out, World.drewN_drewN]⟩
            case measure => simp [intOf]; omega
          · rw [show clampZ X = 2147483647 by unfold clampZ; rw [if_neg (by omega), if_pos hX]] at c1
            go_wp2
            go_quiet (fail)
            go_wp2
            go_roundw
            case rel => exact ⟨j + 1, by omega, by go_num, _, by rw [Hw.out, World.drewN_drewN]⟩
            case measure => simp [intOf]; omega
        · have e : j = k := by omega
          subst e
          subst hw
          go_wp2
          go_ret
          exact ⟨rfl, below_drew hb6 ⟨_, rfl⟩⟩

theorem contract (H : Type) (enc : TypeId × Value → H) (W : World) (base : Nat) (args : Array Value) (ds gs : List (DataW H)) (before : List MemPlace)
    (hval0 : ∀ (j : Nat) t v, Try.f3.params[j]? = some t → args[j]? = some v → Value.okWide Try.prog W .any base t v)
    (hW : DataW.Whole enc Try.prog Try.f3.params.toList Rows.vecScaledSpec.vars false W args.toList ds gs before) :
    Calls Try.prog 3 args W fun e W' => ∃ v, e = .returned v ∧ Rows.vecScaledSpec.post enc Try.prog Try.f3 false true false false W args v W' := by
  have hval : ∀ (j : Nat) t v, Try.f3.params[j]? = some t → args[j]? = some v → Value.okWide Try.prog W .any base t v := hval0
  have hW' := hW
  obtain ⟨p, q, hA0, hV, rfl, hfz, hnd⟩ := hW
  have hA : DataW.TrodAll enc Try.prog W 0 (fun _ => true) true Try.f3.params.toList args.toList ds p := hA0
  rw [Try.params3] at hA hval
  obtain ⟨v0, vs0, d0, ds0, p0, q0, hargs, rfl, rfl, h0, r0⟩ := trodAll_cons hA
  obtain ⟨rfl, rfl, rfl⟩ := trodAll_nil r0
  obtain rfl : args = #[v0] := by cases args; simp_all
  obtain ⟨rfl, rfl⟩ := trodVars_none hV
  obtain ⟨a0, n0, c0, rfl⟩ := okWide_slice Try.underlying22 (hval 0 22 v0 rfl rfl)
  have k0 := h0
  have lt0 : ∀ x ∈ p0, x.block < W.heap.size := by obtain ⟨m, hm⟩ := k0; exact DataW.trod_lt m _ _ _ hm
  obtain ⟨z0, w0, e0, l0, s0⟩ : ∃ zs, Reads .i64 W a0 n0 zs ∧ (a0 = none → c0 = 0) ∧ n0 ≤ c0 ∧ (n0 = 0 ∨ ∃ el sp, d0 = .slice el sp ∧ n0 ≤ el.length + sp.length) := by
    obtain ⟨fuel, hf⟩ := h0
    rcases open_ints Try.underlying22 Try.underlying2 (by kernel_rfl) hf with ⟨hcs, hd⟩ | ⟨x, l, c, zs, hcs, _, hl, hm, hz, hd, hcell, hwz⟩
    · simp [Value.cells] at hcs
      obtain ⟨rfl, rfl, rfl⟩ := hcs
      exact ⟨[], Reads.nil _ _, fun _ => rfl, Nat.le_refl _, .inl rfl⟩
    · simp [Value.cells] at hcs
      obtain ⟨rfl, rfl, rfl⟩ := hcs
      exact ⟨_, Reads.of_open hl hm (by simpa using hz) hcell hwz, (fun h => by cases h), hl, .inr ⟨_, _, congrArg Prod.fst hd, open_length (by simpa using hz) hl⟩⟩
  clear hA0 hval0
  refine (walk a0 n0 c0 z0 W w0 e0 l0).mono fun e W' ⟨he, bel⟩ => ?_
  subst he
  exact ⟨_, rfl, _, _, _, [], _, [], hW', trodAll_mk1 (shut_bool Try.underlying4 _), (trodAll_cons_mk (Below.trod laidOut (by kernel_rfl) (of_decide_eq_true (by kernel_rfl)) k0 bel lt0) trodAll_mk0), rfl, bel.frame _, fun h => by cases h⟩

set_option maxRecDepth 100000 in
theorem lifted (os : Os) (started : os.Started) (H : Type) (enc : TypeId × Value → H) :
    ReturnsInHanded {} Try.checked os 3 .any (Rows.vecScaledSpec.pre6 enc Try.prog Try.f3 Rows.vecScaledRow.domain false) (Rows.vecScaledSpec.post enc Try.prog Try.f3 false true false false) := by
  refine returnsInHanded_of_change (C := Try.checked) own started (by kernel_rfl) Try.func3
    (ChangeSpec.witness6 (enc := enc) (C := Try.checked) false ⟨#[], #[.slice none 0 0], []⟩ 8 (by kernel_rfl) (by kernel_rfl) (by kernel_rfl) (by kernel_rfl)) ?_
  intro W base args ds gs before hval hW _ _
  exact contract H enc W base args ds gs before hval hW

theorem over : Rows.vecScaledRow.holds Try.pinned (OpenSpec.ofChange Rows.vecScaledSpec) :=
  OpenClaim.holds_of_wide 3 Try.f3 rfl rfl rfl rfl rfl rfl rfl ⟨rfl, rfl, rfl, rfl, rfl⟩ rfl rfl rfl rfl rfl (by kernel_rfl) Try.func3 (by kernel_rfl)
    (of_decide_eq_true (by kernel_rfl)) (by unfold Func.isWrapper; first | (rw [if_pos (by decide +kernel)]; kernel_rfl) | (rw [if_neg (by decide +kernel)]; exact ⟨rfl, rfl⟩))
    (fun os started H enc _ => lifted os started H enc)

theorem proved : Rows.VecScaledSaid :=
  over
#print axioms proved
end Go.Proofs.Ytnanhiifeihaaab.vecScaled
