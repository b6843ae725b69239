/- For every row of one to 1000 numbers weights of nought make nought, and a weight of one in one place makes the clamped number of that place; for all others nothing is asked but the examples. -/
import Derived.Test.YtnanhiifeihaaaaRows
import Derived.Test.YtnanhiifeihaaaaSat
import Derived.Test.YtnanhiifeihaaaaSatRef
import Derived.Test.YtnanhiifeihaaaaAdds
import Derived.Test.YtnanhiifeihaaaaView
import Derived.Test.YtnanhiifeihaaaaOwn
import Derived.Test.YtnanhiifeihaaaaDots
import Derived.Test.YtnanhiifeihaaaaDotsRef
import Derived.Test.YtnanhiifeihaaaaScale
import Derived.Test.YtnanhiifeihaaaaFits
import Derived.Test.YtnanhiifeihaaaaMats
import Derived.Test.YtnanhiifeihaaaaWorks
import Derived.WalkKit
import Derived.ProofKit
import Derived.OpenShut
import Derived.ChangeOld
import Derived.Below
import Derived.WalkLawsBesides
namespace Go.Proofs.Ytnanhiifeihaaaa.vecNought
open Go.ChangeShapes Go.WideShapes Go.ChangeAt Go.RowKit
set_option linter.unusedVariables false
set_option linter.unusedSimpArgs false

theorem own : ownKnob Try.prog.godebug = none := by kernel_rfl
theorem laidOut : laidOutB Try.prog = true := by kernel_rfl

theorem rep_getD (n j : Nat) : (List.replicate n (0 : Int)).getD j 0 = 0 := by
  by_cases h : j < n <;> simp [List.getD, h]

theorem sum_nought (n : Nat) (xs : List Int) (k : Nat) : sumZ (List.replicate n 0) xs k = 0 := by
  induction k with
  | zero => rfl
  | succ k ih =>
    show addZ (sumZ (List.replicate n 0) xs k) (clampZ ((List.replicate n (0 : Int)).getD k 0) * clampZ (xs.getD k 0)) = 0
    rw [ih, rep_getD, show clampZ 0 = 0 by decide, Int.zero_mul]
    decide

theorem set_getD (n K j : Nat) (h : K < n) : ((List.replicate n (0 : Int)).set K 64).getD j 0 = if j = K then 64 else 0 := by
  by_cases e : j = K
  · subst e
    rw [if_pos rfl]
    simp [List.getD, h]
  · rw [if_neg e, List.getD_eq_getElem?_getD, List.getElem?_set_ne (by omega), ← List.getD_eq_getElem?_getD, rep_getD]

theorem sum_one (n K : Nat) (xs : List Int) (h : K < n) (k : Nat) : sumZ ((List.replicate n 0).set K 64) xs k = if k ≤ K then 0 else 64 * clampZ (xs.getD K 0) := by
  induction k with
  | zero => rw [if_pos (by omega)]; rfl
  | succ k ih =>
    show addZ (sumZ ((List.replicate n 0).set K 64) xs k) (clampZ (((List.replicate n (0 : Int)).set K 64).getD k 0) * clampZ (xs.getD k 0)) = _
    rw [ih, set_getD n K k h]
    have b := clampZ_bounds (xs.getD K 0)
    by_cases e : k = K
    · subst e
      rw [if_pos (Nat.le_refl _), if_pos rfl, if_neg (by omega), show clampZ 64 = 64 by decide]
      unfold addZ
      rw [if_neg (by omega), if_neg (by omega)]
      omega
    · rw [if_neg e, show clampZ 0 = 0 by decide, Int.zero_mul]
      by_cases l : k < K
      · rw [if_pos (by omega), if_pos (by omega)]
        decide
      · rw [if_neg (by omega), if_neg (by omega)]
        unfold addZ
        rw [if_neg (by omega), if_neg (by omega)]
        omega

theorem clampZ_id' (z : Int) (h0 : -2147483648 ≤ z) (h1 : z ≤ 2147483647) : clampZ z = z := by
  unfold clampZ
  rw [if_neg (by omega), if_neg (by omega)]

theorem shift6 (c : Int) : shiftZ (64 * c) 6 = c := by
  unfold shiftZ shN
  rw [if_neg (by decide), show min (6 : Int) 62 = 6 by decide, show (2 : Int) ^ ((6 : Int).toNat - 1) = 32 by decide]
  split <;> omega

theorem dot_nought (n : Nat) (xs : List Int) : dotZ (List.replicate n 0) xs 6 = 0 := by
  unfold dotZ
  rw [sum_nought]
  decide

theorem dot_one (n K : Nat) (xs : List Int) (h : K < n) : dotZ ((List.replicate n 0).set K 64) xs 6 = clampZ (xs.getD K 0) := by
  have b := clampZ_bounds (xs.getD K 0)
  unfold dotZ
  rw [sum_one n K xs h, if_neg (by simp; omega), shift6, clampZ_id' _ b.1 b.2]

theorem ret_true {a b : Int} (h : a = b) : Ending.returned (.bool (a == b)) = .returned (.bool true) := by subst h; simp


theorem walk (a0 : Option Addr) (n0 c0 : Nat) (z0 : List Int) (a1 : Int) (w : World) (w0 : Reads .i64 w a0 n0 z0) (e0 : a0 = none → c0 = 0) (l0 : n0 ≤ c0) (w1 : (Lit.int .i64 a1).wf = true) :
    Calls Try.prog 8 #[.slice a0 n0 c0, .int .i64 a1] w fun e w' => e = .returned (.bool true) ∧ Below w.heap.size w w' := by
  have hm := w0.max
  by_cases d0 : n0 = 0
  · subst d0
    go_enter Try.func8, Try.ntmps8
    go_wp2_with (go_at_call 20; refine (works_call _).mono ?_; rintro e W1 ⟨rfl, hb1⟩)
    go_ret
    exact ⟨rfl, hb1⟩
  have e3 : ((n0 : Int) == 0) = false := by simp; omega
  by_cases s0 : 1000 < n0
  · have s1 : (1000 : Int) < (n0 : Int) := by omega
    go_enter Try.func8, Try.ntmps8
    go_wp2_with (go_at_call 20; refine (works_call _).mono ?_; rintro e W1 ⟨rfl, hb1⟩)
    go_ret
    exact ⟨rfl, hb1⟩
  obtain ⟨j0, hj, hy0, hy1, hy2⟩ := info_parts info38
  go_enter Try.func8, Try.ntmps8
  go_wp2_with (first
    | (go_at_call 20; refine (works_call _).mono ?_; rintro e W1 ⟨rfl, hb1⟩)
    | (at_make; refine wpList_make_full _ rfl (.tmp 22) (.tmp 22) 22 rfl w.heap.size 38 j0 (.int .i8 0) 1 Try.underlying22 hj hy0 hy1 .i64 .i64 _ _ n0 rfl rfl rfl rfl (by rw [hy2]; omega) (by unfold maxLen; omega) hb1.size ?_; intro W2 ho hg))
  have ho' : W2.ownsRow w.heap.size 38 1 (.slice (some ⟨W1.heap.size, 0, none⟩) n0 n0) n0 (List.replicate n0 (Value.int .i8 0)) := by
    rw [← toList_madeCells_one, ← Nat.mul_one n0]
    simpa [Value.cells] using ho
  have hb2 : Below w.heap.size w W2 := hb1.grown hg hb1.size (fun k h => by cases h)
  have hGs := hb1.size
  clear ho hg hb1
  generalize W1.heap.size = G at *
  have k1 : Calls Try.prog 9 #[.slice (some ⟨G, 0, none⟩) n0 n0, .slice a0 n0 c0] W2 fun e w' => e = .returned (.tuple #[.int .i64 0, .int .i64 0]) ∧ ∃ m, w' = W2.drewN m := by
    have := dot_call _ _ n0 _ _ _ c0 _ _ (own_reads_at (k := .i8) (zs := List.replicate n0 0) ho' (by simp) (by intro z hz; rw [List.eq_of_mem_replicate hz]; decide) (fun j hj => by rw [rep_getD]; simp [hj])) (w0.below hb2)
    rwa [if_pos rfl, if_pos rfl, dot_nought] at this
  have hn : 0 < (n0 : Int) := by omega
  obtain ⟨K, hK, hKn⟩ : ∃ K : Nat, (IntKind.u64.wrap a1).tmod (n0 : Int) = (K : Int) ∧ K < n0 := by
    rw [IntKind.wrap_u64, Int.tmod_eq_emod_of_nonneg (by omega)]
    have h1 := Int.emod_nonneg (a1 % 18446744073709551616) (show (n0 : Int) ≠ 0 by omega)
    have h2 := Int.emod_lt_of_pos (a1 % 18446744073709551616) hn
    exact ⟨(a1 % 18446744073709551616 % (n0 : Int)).toNat, by omega, by omega⟩
  obtain ⟨x, rfl⟩ := w0.some_ (by omega)
  obtain ⟨X, eX⟩ : ∃ X, z0.getD K 0 = X := ⟨_, rfl⟩
  obtain ⟨C, eC⟩ : ∃ C, clampZ X = C := ⟨_, rfl⟩
  have st : ∀ W, Below w.heap.size w W → W.ownsRow w.heap.size 38 1 (.slice (some ⟨G, 0, none⟩) n0 n0) n0 (List.replicate n0 (Value.int .i8 0)) →
      W.cell? ⟨G, K, none⟩ = some (.int .i8 0) ∧ W.frozen? ⟨G, K, none⟩ = false ∧ Below w.heap.size w (W.setCell ⟨G, K, none⟩ (.int .i8 64)) ∧
      Calls Try.prog 9 #[.slice (some ⟨G, 0, none⟩) n0 n0, .slice (some x) n0 c0] (W.setCell ⟨G, K, none⟩ (.int .i8 64)) fun e w' => e = .returned (.tuple #[.int .i64 C, .int .i64 0]) ∧ ∃ m, w' = (W.setCell ⟨G, K, none⟩ (.int .i8 64)).drewN m := by
    intro W hb ho
    have hbs := hb.setCell (p := ⟨G, K, none⟩) hGs (.int .i8 64)
    refine ⟨by rw [ho.cellAt K (by omega)]; simp [hKn], ho.frozenAt K, hbs, ?_⟩
    have := dot_call _ _ n0 _ _ _ c0 _ _ (own_reads_at (k := .i8) (zs := (List.replicate n0 0).set K 64) (ho.stored K (.int .i8 64)).1 (by simp)
      (by intro z hz; rcases List.mem_or_eq_of_mem_set hz with h | h; · rw [List.eq_of_mem_replicate h]; decide
          · rw [h]; decide)
      (fun j hj => by rw [set_getD _ _ _ hKn]; by_cases e : j = K
                      · subst e; simp [hj]
                      · rw [List.getElem?_set_ne (by omega)]; simp [hj, e])) (w0.below hbs)
    rwa [if_pos rfl, if_pos rfl, dot_one _ _ _ hKn, eX, eC] at this
  have cx : ∀ W, Below w.heap.size w W → W.cell? (x.add K) = some (.int .i64 X) := fun W hb => by rw [← eX]; exact (w0.below hb).cell x rfl K hKn
  have EC : Hid (clampZ X = C) := eC
  clear eC eX
  go_wp2_with (first
    | (go_at_call 9; refine k1.mono ?_; rintro e W3 ⟨rfl, hq⟩; have hb3 := below_drew hb2 hq; have ho3 : W3.ownsRow w.heap.size 38 1 (.slice (some ⟨G, 0, none⟩) n0 n0) n0 (List.replicate n0 (Value.int .i8 0)) := (by obtain ⟨m, rfl⟩ := hq; exact ho'); obtain ⟨s1, s2, s3, s4⟩ := st W3 hb3 ho3; clear hq k1 ho' hb2 st)
    | (go_at_call 9; refine s4.mono ?_; rintro e W5 ⟨rfl, hq⟩; have hb5 := below_drew s3 hq; have c5 := cx W5 hb5; clear hq s4 s3 s1 s2 cx))
  all_goals (go_ret; refine ⟨ret_true ?_, by assumption⟩; rw [← EC.out]; unfold clampZ; repeat' split)
  all_goals omega

theorem contract (H : Type) (enc : TypeId × Value → H) (W : World) (base : Nat) (args : Array Value) (ds gs : List (DataW H)) (before : List MemPlace)
    (hval0 : ∀ (j : Nat) t v, Try.f8.params[j]? = some t → args[j]? = some v → Value.okWide Try.prog W .any base t v)
    (hW : DataW.Whole enc Try.prog Try.f8.params.toList Rows.vecNoughtSpec.vars false W args.toList ds gs before) :
    Calls Try.prog 8 args W fun e W' => ∃ v, e = .returned v ∧ Rows.vecNoughtSpec.post enc Try.prog Try.f8 false true false false W args v W' := by
  have hval : ∀ (j : Nat) t v, Try.f8.params[j]? = some t → args[j]? = some v → Value.okWide Try.prog W .any base t v := hval0
  have hW' := hW
  obtain ⟨p, q, hA0, hV, rfl, hfz, hnd⟩ := hW
  have hA : DataW.TrodAll enc Try.prog W 0 (fun _ => true) true Try.f8.params.toList args.toList ds p := hA0
  rw [Try.params8] at hA hval
  obtain ⟨v0, vs0, d0, ds0, p0, q0, hargs, rfl, rfl, h0, r0⟩ := trodAll_cons hA
  obtain ⟨v1, vs1, d1, ds1, p1, q1, rfl, rfl, rfl, h1, r1⟩ := trodAll_cons r0
  obtain ⟨rfl, rfl, rfl⟩ := trodAll_nil r1
  obtain rfl : args = #[v0, v1] := by cases args; simp_all
  obtain ⟨rfl, rfl⟩ := trodVars_none hV
  obtain ⟨a0, n0, c0, rfl⟩ := okWide_slice Try.underlying23 (hval 0 23 v0 rfl rfl)
  have k0 := h0
  have lt0 : ∀ x ∈ p0, x.block < W.heap.size := by obtain ⟨m, hm⟩ := k0; exact DataW.trod_lt m _ _ _ hm
  obtain ⟨z0, w0, e0, l0, s0⟩ : ∃ zs, Reads .i64 W a0 n0 zs ∧ (a0 = none → c0 = 0) ∧ n0 ≤ c0 ∧ (n0 = 0 ∨ ∃ el sp, d0 = .slice el sp ∧ n0 ≤ el.length + sp.length) := by
    obtain ⟨fuel, hf⟩ := h0
    rcases open_ints Try.underlying23 Try.underlying2 (by kernel_rfl) hf with ⟨hcs, hd⟩ | ⟨x, l, c, zs, hcs, _, hl, hm, hz, hd, hcell, hwz⟩
    · simp [Value.cells] at hcs
      obtain ⟨rfl, rfl, rfl⟩ := hcs
      exact ⟨[], Reads.nil _ _, fun _ => rfl, Nat.le_refl _, .inl rfl⟩
    · simp [Value.cells] at hcs
      obtain ⟨rfl, rfl, rfl⟩ := hcs
      exact ⟨_, Reads.of_open hl hm (by simpa using hz) hcell hwz, (fun h => by cases h), hl, .inr ⟨_, _, congrArg Prod.fst hd, open_length (by simpa using hz) hl⟩⟩
  obtain ⟨a1, rfl, rfl, rfl, w1⟩ := open_int Try.underlying3 (hval 1 3 v1 rfl rfl) h1
  clear hA0 hval0
  refine (walk a0 n0 c0 z0 a1 W w0 e0 l0 w1).mono fun e W' ⟨he, bel⟩ => ?_
  subst he
  exact ⟨_, rfl, _, _, _, [], _, [], hW', trodAll_mk1 (shut_bool Try.underlying4 _), (trodAll_cons_mk (Below.trod laidOut (by kernel_rfl) (of_decide_eq_true (by kernel_rfl)) k0 bel lt0) (trodAll_cons_mk (shut_int Try.underlying3 w1) trodAll_mk0)), rfl, bel.frame _, fun h => by cases h⟩

set_option maxRecDepth 100000 in
theorem lifted (os : Os) (started : os.Started) (H : Type) (enc : TypeId × Value → H) :
    ReturnsInHanded {} Try.checked os 8 .any (Rows.vecNoughtSpec.pre6 enc Try.prog Try.f8 Rows.vecNoughtRow.domain false) (Rows.vecNoughtSpec.post enc Try.prog Try.f8 false true false false) := by
  refine returnsInHanded_of_change (C := Try.checked) own started (by kernel_rfl) Try.func8
    (ChangeSpec.witness6 (enc := enc) (C := Try.checked) false ⟨#[], #[.slice none 0 0, .int .i64 0], []⟩ 8 (by kernel_rfl) (by kernel_rfl) (by kernel_rfl) (by kernel_rfl)) ?_
  intro W base args ds gs before hval hW _ _
  exact contract H enc W base args ds gs before hval hW

theorem over : Rows.vecNoughtRow.holds Try.pinned (OpenSpec.ofChange Rows.vecNoughtSpec) :=
  OpenClaim.holds_of_wide 8 Try.f8 rfl rfl rfl rfl rfl rfl rfl ⟨rfl, rfl, rfl, rfl, rfl⟩ rfl rfl rfl rfl rfl (by kernel_rfl) Try.func8 (by kernel_rfl)
    (of_decide_eq_true (by kernel_rfl)) (by unfold Func.isWrapper; first | (rw [if_pos (by decide +kernel)]; kernel_rfl) | (rw [if_neg (by decide +kernel)]; exact ⟨rfl, rfl⟩))
    (fun os started H enc _ => lifted os started H enc)

theorem proved : Rows.VecNoughtSaid :=
  over
#print axioms proved
end Go.Proofs.Ytnanhiifeihaaaa.vecNought
