/- For every row of at most 100 weights and as many numbers (each taken modulo 2^20) and every place the sum of products is that of the two parts together, off by one at most, without an error; for all others nothing is asked but the examples. -/
import Derived.Test.YtnanhiifeihaaabRows
import Derived.Test.YtnanhiifeihaaabSat
import Derived.Test.YtnanhiifeihaaabAdds
import Derived.Test.YtnanhiifeihaaabView
import Derived.Test.YtnanhiifeihaaabOwn
import Derived.Test.YtnanhiifeihaaabDots
import Derived.Test.YtnanhiifeihaaabDotsRef
import Derived.Test.YtnanhiifeihaaabScale
import Derived.Test.YtnanhiifeihaaabFits
import Derived.Test.YtnanhiifeihaaabMats
import Derived.Test.YtnanhiifeihaaabWorks
import Derived.Test.YtnanhiifeihaaabPlain
import Derived.WalkKit
import Derived.ProofKit
import Derived.OpenShut
import Derived.ChangeOld
import Derived.Below
import Derived.WalkLawsBesides
namespace Go.Proofs.Ytnanhiifeihaaab.vecSplit
open Go.ChangeShapes Go.WideShapes Go.ChangeAt Go.RowKit
set_option linter.unusedVariables false
set_option linter.unusedSimpArgs false

theorem own : ownKnob Try.prog.godebug = none := by kernel_rfl
theorem laidOut : laidOutB Try.prog = true := by kernel_rfl

theorem take_getD (l : List Int) (K i : Nat) : (l.take K).getD i 0 = if i < K then l.getD i 0 else 0 := by
  by_cases h : i < K
  · simp [List.getD, h]
  · simp [List.getD, h, List.getElem?_take]

theorem drop_getD (l : List Int) (K i : Nat) : (l.drop K).getD i 0 = l.getD (K + i) 0 := by
  simp [List.getD]

theorem dot_plain (z y : List Int) (n : Nat) (hl : z.length = n) (hn : n ≤ 100) (hz : ∀ i, (clampZ (z.getD i 0)).natAbs ≤ 128) (hy : ∀ i, (clampZ (y.getD i 0)).natAbs ≤ 1048576) :
    ∃ S, S = plainS (prodF z y) n ∧ dotZ z y 6 = shiftZ S 6 ∧ S - 32 ≤ 64 * shiftZ S 6 ∧ 64 * shiftZ S 6 ≤ S + 32 ∧ -13421772800 ≤ S ∧ S ≤ 13421772800 := by
  have b := prodF_bound z y 128 1048576 hz hy
  have c := plainS_bound _ _ b n
  have e := sumZ_plain z y _ b n (by omega) (by omega) n (Nat.le_refl _)
  have d : (n : Int) * ((128 * 1048576 : Nat) : Int) ≤ 13421772800 := by omega
  have s := shift6_near (plainS (prodF z y) n)
  refine ⟨_, rfl, ?_, s.1, s.2, by omega, by omega⟩
  unfold dotZ
  rw [hl, e]
  exact clampZ_in _ (by omega) (by omega)

theorem split_near (z y : List Int) (n K : Nat) (hl : z.length = n) (hn : n ≤ 100) (hK : K ≤ n) (hz : ∀ i, (clampZ (z.getD i 0)).natAbs ≤ 128) (hy : ∀ i, (clampZ (y.getD i 0)).natAbs ≤ 1048576) :
    (-1 ≤ dotZ z y 6 - dotZ (z.take K) (y.take K) 6 - dotZ (z.drop K) (y.drop K) 6 ∧ dotZ z y 6 - dotZ (z.take K) (y.take K) 6 - dotZ (z.drop K) (y.drop K) 6 ≤ 1) ∧
    (-2147483648 ≤ dotZ z y 6 ∧ dotZ z y 6 ≤ 2147483647) ∧ (-2147483648 ≤ dotZ (z.take K) (y.take K) 6 ∧ dotZ (z.take K) (y.take K) 6 ≤ 2147483647) ∧ (-2147483648 ≤ dotZ (z.drop K) (y.drop K) 6 ∧ dotZ (z.drop K) (y.drop K) 6 ≤ 2147483647) := by
  have z0 : (clampZ 0).natAbs = 0 := by decide
  obtain ⟨S, eS, d0, s1, s2, s3, s4⟩ := dot_plain z y n hl hn hz hy
  obtain ⟨T, eT, d1, t1, t2, t3, t4⟩ := dot_plain (z.take K) (y.take K) K (by rw [List.length_take]; omega) (by omega)
    (fun i => by rw [take_getD]; split; exact hz i; omega) (fun i => by rw [take_getD]; split; exact hy i; omega)
  obtain ⟨U, eU, d2, u1, u2, u3, u4⟩ := dot_plain (z.drop K) (y.drop K) (n - K) (by rw [List.length_drop]; omega) (by omega)
    (fun i => by rw [drop_getD]; exact hz _) (fun i => by rw [drop_getD]; exact hy _)
  have a1 : T = plainS (prodF z y) K := by
    rw [eT]
    refine plainS_congr _ _ _ fun i hi => ?_
    unfold prodF
    rw [take_getD, take_getD, if_pos hi, if_pos hi]
  have a2 : U = plainS (fun i => prodF z y (K + i)) (n - K) := by
    rw [eU]
    refine plainS_congr _ _ _ fun i hi => ?_
    unfold prodF
    rw [drop_getD, drop_getD]
  have a3 := plainS_add (prodF z y) K (n - K)
  rw [show K + (n - K) = n by omega, ← eS, ← a1, ← a2] at a3
  rw [d0, d1, d2]
  omega

def restF (z : List Int) (j : Nat) : Int := (z.getD j 0).tmod 1048576

theorem rest_bounds (x : Int) : -1048576 < x.tmod 1048576 ∧ x.tmod 1048576 < 1048576 := by
  rw [Int.tmod_eq_emod]
  split <;> omega

theorem rest_getD (z : List Int) (n i : Nat) : (clampZ (((List.range n).map (restF z)).getD i 0)).natAbs ≤ 1048576 := by
  by_cases h : i < n
  · have e : ((List.range n).map (restF z)).getD i 0 = restF z i := by simp [List.getD, h]
    have b := rest_bounds (z.getD i 0)
    rw [e]
    unfold restF
    rw [clampZ_in _ (by omega) (by omega)]
    omega
  · have e : ((List.range n).map (restF z)).getD i 0 = 0 := by simp [List.getD, h]
    rw [e]
    decide

theorem reads_head {k : IntKind} {w : World} {a : Option Addr} {n : Nat} {zs : List Int} (h : Reads k w a n zs) (K : Nat) (hK : K ≤ n) : Reads k w a K (zs.take K) := by
  have hl := h.len
  have hm := h.max
  refine ⟨by rw [List.length_take]; omega, by omega, fun i => ?_, fun h0 => h.some_ (by omega), fun x hx i hi => ?_⟩
  · rw [take_getD]
    split
    · exact h.wf i
    · exact wf_nought k
  · rw [take_getD, if_pos hi]
    exact h.cell x hx i (by omega)

theorem reads_tail {k : IntKind} {w : World} {a : Option Addr} {n : Nat} {zs : List Int} (h : Reads k w a n zs) (K c : Nat) (hK : K ≤ n) (hc : n ≤ c) : Reads k w (if c = K then a else a.map fun x => x.add K) (n - K) (zs.drop K) := by
  have hl := h.len
  have hm := h.max
  refine ⟨by rw [List.length_drop]; omega, by omega, fun i => by rw [drop_getD]; exact h.wf _, fun h0 => ?_, fun x hx i hi => ?_⟩
  · obtain ⟨x, rfl⟩ := h.some_ (by omega)
    rw [if_neg (by omega)]
    exact ⟨_, rfl⟩
  · obtain ⟨y, rfl⟩ := h.some_ (by omega)
    rw [if_neg (by omega)] at hx
    simp only [Option.map_some, Option.some.injEq] at hx
    subst hx
    rw [drop_getD, Addr.add_add]
    exact h.cell y rfl (K + i) (by omega)

theorem own_shape {w : World} {B : Nat} {e : TypeId} {a : Option Addr} {n c : Nat} {cs : List Value} (h : w.ownsRow B e 1 (.slice a n c) n cs) : n ≤ c ∧ (a = none → c = 0) := by
  rcases h.2 with ⟨h, hn⟩ | ⟨g, cap, cur, h, _, _, hn, _⟩
  · simp only [Value.slice.injEq] at h
    exact ⟨by omega, fun _ => h.2.2⟩
  · simp only [Value.slice.injEq] at h
    exact ⟨by omega, fun e => by rw [e] at h; cases h.1⟩


theorem walk (a0 : Option Addr) (n0 c0 : Nat) (z0 : List Int) (a1 : Option Addr) (n1 c1 : Nat) (z1 : List Int) (a2 : Int) (w : World) (w0 : Reads .i8 w a0 n0 z0) (e0 : a0 = none → c0 = 0) (l0 : n0 ≤ c0) (w1 : Reads .i64 w a1 n1 z1) (e1 : a1 = none → c1 = 0) (l1 : n1 ≤ c1) (w2 : (Lit.int .i64 a2).wf = true) :
    Calls Try.prog 4 #[.slice a0 n0 c0, .slice a1 n1 c1, .int .i64 a2] w fun e w' => e = .returned (.bool true) ∧ Below w.heap.size w w' := by
  have hm := w0.max
  have hm1 := w1.max
  by_cases e01 : n0 = n1
  rotate_left
  · have e' : ((n0 : Int) == (n1 : Int)) = false := by simp; omega
    have e'' : ((n0 : Int) != (n1 : Int)) = true := by simp only [bne, e', Bool.not_false]
    go_enter Try.func4, Try.ntmps4
    go_wp2_with (go_at_call 5; refine (works_call _).mono ?_; rintro e W1 ⟨rfl, hb1⟩)
    go_ret
    exact ⟨rfl, hb1⟩
  subst e01
  by_cases s0 : 100 < n0
  · have s1 : (100 : Int) < (n0 : Int) := by omega
    go_enter Try.func4, Try.ntmps4
    go_wp2_with (go_at_call 5; refine (works_call _).mono ?_; rintro e W1 ⟨rfl, hb1⟩)
    go_ret
    exact ⟨rfl, hb1⟩
  obtain ⟨i0, hi, hz0, hz1, hz2⟩ := info_parts info2
  go_enter Try.func4, Try.ntmps4
  go_wp2_with (go_at_call 5; refine (works_call _).mono ?_; rintro e W1 ⟨rfl, hb1⟩)
  go_loopw [7, 8] (fun v i wr => ∃ k : Nat, k ≤ n0 ∧ i = .int .i64 k ∧ Below w.heap.size w wr ∧ wr.ownsRow w.heap.size 2 1 v k (gath (restF z1) .i64 k)) (fun _ i _ => n0 - (intOf i).toNat)
  case atStart => exact ⟨0, Nat.zero_le _, rfl, hb1, World.ownsRow_nil _ _ _ _⟩
  case round =>
    obtain ⟨k, hk, rfl, hbr, ho⟩ := hrel
    by_cases hlt : k < n0
    · have hr := w1.below hbr
      obtain ⟨x, rfl⟩ := w1.some_ (by omega)
      have cx := hr.cell x rfl k hlt
      have hsz := hbr.size
      obtain ⟨X, eX⟩ : ∃ X, z1.getD k 0 = X := ⟨_, rfl⟩
      have Ez : Hid (X.tmod 1048576 = restF z1 k) := by show _ = _; unfold restF; rw [eX]
      rw [eX] at cx
      clear eX hr
      go_wp2_with (at_builtin; refine wpList_append_own _ rfl (.tmp 35) (.tmp 41) 22 rfl w.heap.size 2 i0 (.int .i64 0) 1 8 Try.underlying22 hi hz0 hz1 hz2 rfl (by decide) _ _ _ rfl (ho.alloc _) ⟨_, 0, none⟩ 1 1 [.int .i64 (X.tmod 1048576)] rfl rfl (one_new _ _ _) (one_oneCell _ _) (by unfold maxLen; omega) (by omega) (by simp; omega) ?_; intro v' w1' ho' hg _)
      go_roundw
      case rel => exact ⟨k + 1, by omega, by go_num, append_step hsz Ez.out hbr ho ho' hg⟩
      case measure => simp [intOf]; omega
    · have e : k = n0 := by omega
      subst e
      obtain ⟨ay, cy, rfl, ry⟩ := own_reads (zs := (List.range k).map (restF z1)) ho (by simp) (fun z hz => by obtain ⟨y, _, rfl⟩ := List.mem_map.1 hz; have := rest_bounds (z1.getD y 0); exact WalkArith.wf_i64 ⟨by unfold restF; omega, by unfold restF; omega⟩) (fun j hj => by rw [gath_at _ _ _ _ hj]; simp [hj])
      obtain ⟨ly, ey⟩ := own_shape ho
      obtain ⟨Y, eY⟩ : ∃ Y, (List.range k).map (restF z1) = Y := ⟨_, rfl⟩
      rw [eY] at ry
      have hn : 0 < (k : Int) + 1 := by omega
      obtain ⟨K, hK, hKn⟩ : ∃ K : Nat, (IntKind.u64.wrap a2).tmod ((k : Int) + 1) = (K : Int) ∧ K ≤ k := by
        rw [IntKind.wrap_u64, Int.tmod_eq_emod_of_nonneg (by omega)]
        have h1 := Int.emod_nonneg (a2 % 18446744073709551616) (show (k : Int) + 1 ≠ 0 by omega)
        have h2 := Int.emod_lt_of_pos (a2 % 18446744073709551616) hn
        exact ⟨(a2 % 18446744073709551616 % ((k : Int) + 1)).toNat, by omega, by omega⟩
      have near := split_near z0 Y k K w0.len (by omega) hKn (fun i => clampZ_abs8 _ (w0.wf i)) (fun i => by rw [← eY]; exact rest_getD z1 k i)
      have r0 := w0.below hbr
      have k0 : Calls Try.prog 8 #[.slice a0 k c0, .slice ay k cy] wr fun e w' => e = .returned (.tuple #[.int .i64 (dotZ z0 Y 6), .int .i64 0]) ∧ ∃ m, w' = wr.drewN m := by
        have := dot_call _ _ c0 _ _ _ cy _ _ r0 ry
        rwa [if_pos rfl, if_pos rfl] at this
      obtain ⟨A1, eA1⟩ : ∃ A1, (if c0 = K then a0 else a0.map fun x => x.add K) = A1 := ⟨_, rfl⟩
      obtain ⟨B1, eB1⟩ : ∃ B1, (if cy = K then ay else ay.map fun x => x.add K) = B1 := ⟨_, rfl⟩
      have kk1 : ∀ W, (∃ m, W = wr.drewN m) → Calls Try.prog 8 #[.slice a0 K c0, .slice ay K cy] W fun e w' => e = .returned (.tuple #[.int .i64 (dotZ (z0.take K) (Y.take K) 6), .int .i64 0]) ∧ ∃ m, w' = W.drewN m := by
        rintro W ⟨m, rfl⟩
        have := dot_call _ _ c0 _ _ _ cy _ _ ((reads_head r0 K hKn).drewN m) ((reads_head ry K hKn).drewN m)
        rwa [if_pos rfl, if_pos rfl] at this
      have kk2 : ∀ W, (∃ m, W = wr.drewN m) → Calls Try.prog 8 #[.slice A1 (k - K) (c0 - K), .slice B1 (k - K) (cy - K)] W fun e w' => e = .returned (.tuple #[.int .i64 (dotZ (z0.drop K) (Y.drop K) 6), .int .i64 0]) ∧ ∃ m, w' = W.drewN m := by
        rintro W ⟨m, rfl⟩
        have h1 := (reads_tail r0 K c0 hKn l0).drewN m
        have h2 := (reads_tail ry K cy hKn ly).drewN m
        rw [eA1] at h1
        rw [eB1] at h2
        have := dot_call _ _ (c0 - K) _ _ _ (cy - K) _ _ h1 h2
        rwa [if_pos rfl, if_pos rfl] at this
      obtain ⟨D0, eD0⟩ : ∃ D, dotZ z0 Y 6 = D := ⟨_, rfl⟩
      obtain ⟨D1, eD1⟩ : ∃ D, dotZ (z0.take K) (Y.take K) 6 = D := ⟨_, rfl⟩
      obtain ⟨D2, eD2⟩ : ∃ D, dotZ (z0.drop K) (Y.drop K) 6 = D := ⟨_, rfl⟩
      rw [eD0] at k0
      rw [eD1] at kk1
      rw [eD2] at kk2
      rw [eD0, eD1, eD2] at near
      obtain ⟨⟨g1, g2⟩, ⟨g3, g4⟩, ⟨g5, g6⟩, g7, g8⟩ := near
      have f1 : K ≤ c0 := by omega
      have f2 : K ≤ cy := by omega
      have f3 : (K : Int) ≤ (k : Int) := by omega
      clear ho eD0 eD1 eD2 eY ry r0 w0 w1 hi hz0 hz1 hz2 hb1
      go_wp2_with (go_at_call 8; refine k0.mono ?_; rintro e W2 ⟨rfl, hq⟩; clear k0)
      have q2 : ∀ n, ∃ m, W2.drewN n = wr.drewN m := fun n => by obtain ⟨m, rfl⟩ := hq; exact ⟨m + n, by rw [World.drewN_drewN]⟩
      go_quiet (first | (go_at_call 8; refine Calls.quiet_of (kk1 _ (q2 _))))
      obtain ⟨W3, hW3⟩ : ∃ W3, W3 = W2.drewN nq := ⟨_, rfl⟩
      rw [← hW3]
      have q3 : ∀ n, ∃ m, W3.drewN n = wr.drewN m := fun n => by obtain ⟨m, rfl⟩ := hq; exact ⟨m + (nq + n), by rw [hW3, World.drewN_drewN, World.drewN_drewN]⟩
      clear hW3 kk1 q2 hq
      go_wp2
      go_quiet (first | (go_at_call 8; refine Calls.quiet_of (kk2 _ (q3 _))))
      have hb4 := below_drew hbr (q3 nq)
      clear q3 kk2
      go_wp2
      go_ret
      exact ⟨rfl, hb4⟩

theorem contract (H : Type) (enc : TypeId × Value → H) (W : World) (base : Nat) (args : Array Value) (ds gs : List (DataW H)) (before : List MemPlace)
    (hval0 : ∀ (j : Nat) t v, Try.f4.params[j]? = some t → args[j]? = some v → Value.okWide Try.prog W .any base t v)
    (hW : DataW.Whole enc Try.prog Try.f4.params.toList Rows.vecSplitSpec.vars false W args.toList ds gs before) :
    Calls Try.prog 4 args W fun e W' => ∃ v, e = .returned v ∧ Rows.vecSplitSpec.post enc Try.prog Try.f4 false true false false W args v W' := by
  have hval : ∀ (j : Nat) t v, Try.f4.params[j]? = some t → args[j]? = some v → Value.okWide Try.prog W .any base t v := hval0
  have hW' := hW
  obtain ⟨p, q, hA0, hV, rfl, hfz, hnd⟩ := hW
  have hA : DataW.TrodAll enc Try.prog W 0 (fun _ => true) true Try.f4.params.toList args.toList ds p := hA0
  rw [Try.params4] at hA hval
  obtain ⟨v0, vs0, d0, ds0, p0, q0, hargs, rfl, rfl, h0, r0⟩ := trodAll_cons hA
  obtain ⟨v1, vs1, d1, ds1, p1, q1, rfl, rfl, rfl, h1, r1⟩ := trodAll_cons r0
  obtain ⟨v2, vs2, d2, ds2, p2, q2, rfl, rfl, rfl, h2, r2⟩ := trodAll_cons r1
  obtain ⟨rfl, rfl, rfl⟩ := trodAll_nil r2
  obtain rfl : args = #[v0, v1, v2] := by cases args; simp_all
  obtain ⟨rfl, rfl⟩ := trodVars_none hV
  obtain ⟨a0, n0, c0, rfl⟩ := okWide_slice Try.underlying29 (hval 0 29 v0 rfl rfl)
  have k0 := h0
  have lt0 : ∀ x ∈ p0, x.block < W.heap.size := by obtain ⟨m, hm⟩ := k0; exact DataW.trod_lt m _ _ _ hm
  obtain ⟨z0, w0, e0, l0, s0⟩ : ∃ zs, Reads .i8 W a0 n0 zs ∧ (a0 = none → c0 = 0) ∧ n0 ≤ c0 ∧ (n0 = 0 ∨ ∃ el sp, d0 = .slice el sp ∧ n0 ≤ el.length + sp.length) := by
    obtain ⟨fuel, hf⟩ := h0
    rcases open_ints Try.underlying29 Try.underlying34 (by kernel_rfl) hf with ⟨hcs, hd⟩ | ⟨x, l, c, zs, hcs, _, hl, hm, hz, hd, hcell, hwz⟩
    · simp [Value.cells] at hcs
      obtain ⟨rfl, rfl, rfl⟩ := hcs
      exact ⟨[], Reads.nil _ _, fun _ => rfl, Nat.le_refl _, .inl rfl⟩
    · simp [Value.cells] at hcs
      obtain ⟨rfl, rfl, rfl⟩ := hcs
      exact ⟨_, Reads.of_open hl hm (by simpa using hz) hcell hwz, (fun h => by cases h), hl, .inr ⟨_, _, congrArg Prod.fst hd, open_length (by simpa using hz) hl⟩⟩
  obtain ⟨a1, n1, c1, rfl⟩ := okWide_slice Try.underlying22 (hval 1 22 v1 rfl rfl)
  have k1 := h1
  have lt1 : ∀ x ∈ p1, x.block < W.heap.size := by obtain ⟨m, hm⟩ := k1; exact DataW.trod_lt m _ _ _ hm
  obtain ⟨z1, w1, e1, l1, s1⟩ : ∃ zs, Reads .i64 W a1 n1 zs ∧ (a1 = none → c1 = 0) ∧ n1 ≤ c1 ∧ (n1 = 0 ∨ ∃ el sp, d1 = .slice el sp ∧ n1 ≤ el.length + sp.length) := by
    obtain ⟨fuel, hf⟩ := h1
    rcases open_ints Try.underlying22 Try.underlying2 (by kernel_rfl) hf with ⟨hcs, hd⟩ | ⟨x, l, c, zs, hcs, _, hl, hm, hz, hd, hcell, hwz⟩
    · simp [Value.cells] at hcs
      obtain ⟨rfl, rfl, rfl⟩ := hcs
      exact ⟨[], Reads.nil _ _, fun _ => rfl, Nat.le_refl _, .inl rfl⟩
    · simp [Value.cells] at hcs
      obtain ⟨rfl, rfl, rfl⟩ := hcs
      exact ⟨_, Reads.of_open hl hm (by simpa using hz) hcell hwz, (fun h => by cases h), hl, .inr ⟨_, _, congrArg Prod.fst hd, open_length (by simpa using hz) hl⟩⟩
  obtain ⟨a2, rfl, rfl, rfl, w2⟩ := open_int Try.underlying3 (hval 2 3 v2 rfl rfl) h2
  clear hA0 hval0
  refine (walk a0 n0 c0 z0 a1 n1 c1 z1 a2 W w0 e0 l0 w1 e1 l1 w2).mono fun e W' ⟨he, bel⟩ => ?_
  subst he
  exact ⟨_, rfl, _, _, _, [], _, [], hW', trodAll_mk1 (shut_bool Try.underlying4 _), (trodAll_cons_mk (Below.trod laidOut (by kernel_rfl) (of_decide_eq_true (by kernel_rfl)) k0 bel lt0) (trodAll_cons_mk (Below.trod laidOut (by kernel_rfl) (of_decide_eq_true (by kernel_rfl)) k1 bel lt1) (trodAll_cons_mk (shut_int Try.underlying3 w2) trodAll_mk0))), rfl, bel.frame _, fun h => by cases h⟩

set_option maxRecDepth 100000 in
theorem lifted (os : Os) (started : os.Started) (H : Type) (enc : TypeId × Value → H) :
    ReturnsInHanded {} Try.checked os 4 .any (Rows.vecSplitSpec.pre6 enc Try.prog Try.f4 Rows.vecSplitRow.domain false) (Rows.vecSplitSpec.post enc Try.prog Try.f4 false true false false) := by
  refine returnsInHanded_of_change (C := Try.checked) own started (by kernel_rfl) Try.func4
    (ChangeSpec.witness6 (enc := enc) (C := Try.checked) false ⟨#[], #[.slice none 0 0, .slice none 0 0, .int .i64 0], []⟩ 8 (by kernel_rfl) (by kernel_rfl) (by kernel_rfl) (by kernel_rfl)) ?_
  intro W base args ds gs before hval hW _ _
  exact contract H enc W base args ds gs before hval hW

theorem over : Rows.vecSplitRow.holds Try.pinned (OpenSpec.ofChange Rows.vecSplitSpec) :=
  OpenClaim.holds_of_wide 4 Try.f4 rfl rfl rfl rfl rfl rfl rfl ⟨rfl, rfl, rfl, rfl, rfl⟩ rfl rfl rfl rfl rfl (by kernel_rfl) Try.func4 (by kernel_rfl)
    (of_decide_eq_true (by kernel_rfl)) (by unfold Func.isWrapper; first | (rw [if_pos (by decide +kernel)]; kernel_rfl) | (rw [if_neg (by decide +kernel)]; exact ⟨rfl, rfl⟩))
    (fun os started H enc _ => lifted os started H enc)

theorem proved : Rows.VecSplitSaid :=
  over
#print axioms proved
end Go.Proofs.Ytnanhiifeihaaab.vecSplit
