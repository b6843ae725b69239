/- Of any row (longer ones than 300 are passed over) the first places of more are the first places of fewer, as many as asked for or all, and Max is the first; the row is as it was; no condition. -/
import Derived.Test.YtefkbfmckoidaaaRows
import Derived.Test.YtefkbfmckoidaaaView
import Derived.Test.YtefkbfmckoidaaaOwn
import Derived.Test.YtefkbfmckoidaaaSame
import Derived.Test.YtefkbfmckoidaaaOrder
import Derived.Test.YtefkbfmckoidaaaRank
import Derived.Test.YtefkbfmckoidaaaTop
import Derived.Test.YtefkbfmckoidaaaLooks
import Derived.WalkKit
import Derived.ProofKit
import Derived.OpenShut
import Derived.ChangeOld
import Derived.Below
import Derived.Deep.QuietTactic
import Derived.BigQuiet
import Derived.Lib.QuietBelow
import Derived.WalkLawsBesides
namespace Go.Proofs.Ytefkbfmckoidaaa.pickFewer
open Go.ChangeShapes Go.WideShapes Go.ChangeAt Go.RowKit Go.Sort
set_option linter.unusedVariables false
set_option linter.unusedSimpArgs false

theorem own : ownKnob Try.prog.godebug = none := by kernel_rfl
theorem laidOut : laidOutB Try.prog = true := by kernel_rfl

theorem rest_of (x k : Int) (hk : 0 < k) : ∃ M : Int, 0 ≤ M ∧ M < k ∧ (IntKind.u64.wrap x).tmod k = M ∧ IntKind.u64.wrap x % k = M := by
  have b : 0 ≤ IntKind.u64.wrap x := by rw [IntKind.wrap_u64]; omega
  generalize IntKind.u64.wrap x = U at *
  exact ⟨U % k, Int.emod_nonneg _ (by omega), Int.emod_lt_of_pos _ hk, by rw [Int.tmod_eq_emod_of_nonneg b], rfl⟩

theorem top_min (xs : List Int) (n : Nat) (h : xs.length = n) (k : Int) (M : Nat) (e : min k.toNat n = M) : topZ xs k = (allZ xs).take M := by
  rw [topZ_all, ← e, ← h, ← allZ_length, ← List.take_eq_take_min]

theorem reads_less {k : IntKind} {w : World} {a : Option Addr} {n : Nat} {zs : List Int} {m : Nat} (h : Reads k w a n (zs.take n)) (hm : m ≤ n) : Reads k w a m (zs.take m) := by
  have hl := h.len
  rw [List.length_take] at hl
  have e : ∀ i, i < m → (zs.take m).getD i 0 = (zs.take n).getD i 0 := fun i hi => by simp [List.getD, hi, show i < n by omega]
  refine ⟨by rw [List.length_take]; omega, by have := h.max; omega, fun i => ?_, fun h0 => h.some_ (by omega), fun x hx i hi => ?_⟩
  · by_cases hi : i < m
    · rw [e i hi]; exact h.wf i
    · rw [show (zs.take m).getD i 0 = 0 by rw [List.getD_eq_getElem?_getD, List.getElem?_eq_none (by rw [List.length_take]; omega)]; rfl]; exact wf_nought k
  · rw [e i hi]; exact h.cell x hx i (by omega)


set_option maxHeartbeats 4000000 in
set_option maxRecDepth 20000 in
theorem walk (a0 : Option Addr) (n0 c0 : Nat) (z0 : List Int) (a1 : Int) (a2 : Int) (w : World) (w0 : Reads .i64 w a0 n0 z0) (e0 : a0 = none → c0 = 0) (l0 : n0 ≤ c0) (w1 : (Lit.int .i64 a1).wf = true) (w2 : (Lit.int .i64 a2).wf = true) :
    Calls Try.prog 5 #[.slice a0 n0 c0, .int .i64 a1, .int .i64 a2] w fun e w' => e = .returned (.bool true) ∧ Below w.heap.size w w' := by
  have hm := w0.max
  have hl := w0.len
  by_cases h : 300 < n0
  · have h' : (300 : Int) < (n0 : Int) := by omega
    go_enter Try.func5, Try.ntmps5
    go_wp2_with (go_at_call 15; refine (works_call _).mono ?_; rintro e W1 ⟨rfl, hb1⟩)
    go_ret
    exact ⟨rfl, hb1⟩
  have hn : (n0 : Int) ≤ 300 := by omega
  obtain ⟨P, P0, P1, eP, eP'⟩ := rest_of a1 400 (by decide)
  obtain ⟨Q, Q0, Q1, eQ, eQ'⟩ := rest_of a2 400 (by decide)
  obtain ⟨S, eS⟩ : ∃ S, min P Q = S := ⟨_, rfl⟩
  obtain ⟨T, eT⟩ : ∃ T, max P Q = T := ⟨_, rfl⟩
  obtain ⟨L, eL⟩ : ∃ L, min S.toNat n0 = L := ⟨_, rfl⟩
  obtain ⟨M, eM⟩ : ∃ M, min T.toNat n0 = M := ⟨_, rfl⟩
  have kS := fun W (r : Reads .i64 W a0 n0 z0) => top_call a0 n0 c0 z0 S W r (by omega)
  have kT := fun W (r : Reads .i64 W a0 n0 z0) => top_call a0 n0 c0 z0 T W r (by omega)
  rw [top_min z0 n0 hl S L eL, eL] at kS
  rw [top_min z0 n0 hl T M eM, eM] at kT
  have eL' : min S (n0 : Int) = (L : Int) := by omega
  have eM' : min T (n0 : Int) = (M : Int) := by omega
  have hLM : L ≤ M := by omega
  have hM : M ≤ n0 := by omega
  have hS : S ≤ 400 := by omega
  have hT : T ≤ 400 := by omega
  have fst : 0 < n0 → ((allZ z0).getD 0 0 = ((places z0).getD 0 0 : Nat)) := fun h => allZ_at z0 0 (by omega)
  have kX := fun (h : 0 < n0) W (r : Reads .i64 W a0 n0 z0) => max_some a0 n0 c0 z0 W r h
  obtain ⟨F, eF⟩ : ∃ F, (places z0).getD 0 0 = F := ⟨_, rfl⟩
  rw [eF] at fst kX
  clear eF eL eM h
  go_enter Try.func5, Try.ntmps5
  go_wp2_with (first
    | (go_at_call 15; refine (works_call _).mono ?_; rintro e W1 ⟨rfl, hb1⟩)
    | (go_at_call_of 10 S; refine (kS _ (w0.below hb1)).mono ?_; rintro e W2 ⟨⟨p2, q2, rfl, r2, e2, l2⟩, hb2⟩; replace hb2 := below_then hb1 hb2; clear hb1)
    | (go_at_call_of 10 T; refine (kT _ (w0.below hb2)).mono ?_; rintro e W3 ⟨⟨p3, q3, rfl, r3, e3, l3⟩, hb3⟩; replace r2 := r2.below hb3; replace hb3 := below_then hb2 hb3; clear hb2))
  all_goals
    rename (L : Int) = _ => hx
    clear hx kS kT eL' eM' eS eT eP eP' eQ eQ'
    have r3' : Reads .i64 W3 p3 L ((allZ z0).take L) := reads_less r3 hLM
    have c9 : ∀ d os q, Calls Try.prog 9 #[.slice p2 L q2, .slice p3 L q] (grow (redrawn W3 d) os) fun e w'' => e = .returned (.bool true) ∧ ∃ p : Regrown, w'' = grow (redrawn W3 p.d) p.os := fun d os q =>
      Calls.regrown_of ((same_ints p2 L q2 _ p3 L q _ (r2.below (below_regrown W3 d os)) (r3'.below (below_regrown W3 d os))).mono fun e w' ⟨he, hq⟩ => ⟨he, below_drew (Below.refl _ _) hq⟩)
    cases p3 with
    | none =>
      obtain rfl : M = 0 := by
        by_cases h : 0 < M
        · obtain ⟨x, hx⟩ := r3.some_ h
          cases hx
        · omega
      obtain rfl : L = 0 := by omega
      obtain rfl := e3 rfl
      clear r2 r3 r3' kX fst
      refine wp_region_quiet_below (by kernel_rfl) (by kernel_rfl) ?_
      repeat (go_big_quiet_step (first | (go_at_call 9; exact c9 _ _ _)))
      refine wpQuiet_nil ?_
      intro _ hw'
      obtain ⟨⟨dq, osq⟩, hw''⟩ := hw'
      subst hw''
      go_wp2
      go_ret
      exact ⟨rfl, below_then hb3 (below_regrown W3 dq osq)⟩
    | some y =>
      have hL3 : L ≤ q3 := by omega
      by_cases hM0 : M = 0
      · have g1 : ((M : Int) == 0) = true := by simp; omega
        have g2 : decide ((M : Int) = 0) = true := by simp; omega
        have g3 : decide (M = 0) = true := by simp; omega
        clear r2 r3 r3' kX fst
        refine wp_region_quiet_below (by kernel_rfl) (by kernel_rfl) ?_
        repeat (go_big_quiet_step (first | (go_at_call 9; exact c9 _ _ _)))
        refine wpQuiet_nil ?_
        intro _ hw'
        obtain ⟨⟨dq, osq⟩, hw''⟩ := hw'
        subst hw''
        go_wp2
        go_ret
        exact ⟨rfl, below_then hb3 (below_regrown W3 dq osq)⟩
      · have g1 : ((M : Int) == 0) = false := by simp; omega
        have g2 : decide ((M : Int) = 0) = false := by simp; omega
        have g3 : decide (M = 0) = false := by simp; omega
        have cy := r3.cell y rfl 0 (by omega)
        rw [show ((allZ z0).take M).getD 0 0 = (allZ z0).getD 0 0 by simp [List.getD, show 0 < M by omega], fst (by omega)] at cy
        replace cy : W3.cell? y = some (.int .i64 (F : Nat)) := by simpa [Addr.add] using cy
        have cy' := cell_regrown cy
        have c7 : ∀ d os, Calls Try.prog 7 #[.slice a0 n0 c0] (grow (redrawn W3 d) os) fun e w'' => e = .returned (.int .i64 (F : Nat)) ∧ ∃ p : Regrown, w'' = grow (redrawn W3 p.d) p.os := fun d os =>
          Calls.regrown_of (kX (by omega) _ (w0.below (below_then hb3 (below_regrown W3 d os))))
        have hM1 : 0 < M := by omega
        clear r2 r3 r3' kX fst cy
        refine wp_region_quiet_below (by kernel_rfl) (by kernel_rfl) ?_
        repeat (go_big_quiet_step (first | (go_at_call 9; exact c9 _ _ _) | (go_at_call 7; exact c7 _ _)))
        refine wpQuiet_nil ?_
        intro _ hw'
        obtain ⟨⟨dq, osq⟩, hw''⟩ := hw'
        subst hw''
        go_wp2
        go_ret
        exact ⟨rfl, below_then hb3 (below_regrown W3 dq osq)⟩

theorem contract (H : Type) (enc : TypeId × Value → H) (W : World) (base : Nat) (args : Array Value) (ds gs : List (DataW H)) (before : List MemPlace)
    (hval0 : ∀ (j : Nat) t v, Try.f5.params[j]? = some t → args[j]? = some v → Value.okWide Try.prog W .any base t v)
    (hW : DataW.Whole enc Try.prog Try.f5.params.toList Rows.pickFewerSpec.vars false W args.toList ds gs before) :
    Calls Try.prog 5 args W fun e W' => ∃ v, e = .returned v ∧ Rows.pickFewerSpec.post enc Try.prog Try.f5 false true false false W args v W' := by
  have hval : ∀ (j : Nat) t v, Try.f5.params[j]? = some t → args[j]? = some v → Value.okWide Try.prog W .any base t v := hval0
  have hW' := hW
  obtain ⟨p, q, hA0, hV, rfl, hfz, hnd⟩ := hW
  have hA : DataW.TrodAll enc Try.prog W 0 (fun _ => true) true Try.f5.params.toList args.toList ds p := hA0
  rw [Try.params5] at hA hval
  obtain ⟨v0, vs0, d0, ds0, p0, q0, hargs, rfl, rfl, h0, r0⟩ := trodAll_cons hA
  obtain ⟨v1, vs1, d1, ds1, p1, q1, rfl, rfl, rfl, h1, r1⟩ := trodAll_cons r0
  obtain ⟨v2, vs2, d2, ds2, p2, q2, rfl, rfl, rfl, h2, r2⟩ := trodAll_cons r1
  obtain ⟨rfl, rfl, rfl⟩ := trodAll_nil r2
  obtain rfl : args = #[v0, v1, v2] := by cases args; simp_all
  obtain ⟨rfl, rfl⟩ := trodVars_none hV
  obtain ⟨a0, n0, c0, rfl⟩ := okWide_slice Try.underlying22 (hval 0 22 v0 rfl rfl)
  have k0 := h0
  have lt0 : ∀ x ∈ p0, x.block < W.heap.size := by obtain ⟨m, hm⟩ := k0; exact DataW.trod_lt m _ _ _ hm
  obtain ⟨z0, w0, e0, l0, s0⟩ : ∃ zs, Reads .i64 W a0 n0 zs ∧ (a0 = none → c0 = 0) ∧ n0 ≤ c0 ∧ (n0 = 0 ∨ ∃ el sp, d0 = .slice el sp ∧ n0 ≤ el.length + sp.length) := by
    obtain ⟨fuel, hf⟩ := h0
    rcases open_ints Try.underlying22 Try.underlying2 (by kernel_rfl) hf with ⟨hcs, hd⟩ | ⟨x, l, c, zs, hcs, _, hl, hm, hz, hd, hcell, hwz⟩
    · simp [Value.cells] at hcs
      obtain ⟨rfl, rfl, rfl⟩ := hcs
      exact ⟨[], Reads.nil _ _, fun _ => rfl, Nat.le_refl _, .inl rfl⟩
    · simp [Value.cells] at hcs
      obtain ⟨rfl, rfl, rfl⟩ := hcs
      exact ⟨_, Reads.of_open hl hm (by simpa using hz) hcell hwz, (fun h => by cases h), hl, .inr ⟨_, _, congrArg Prod.fst hd, open_length (by simpa using hz) hl⟩⟩
  obtain ⟨a1, rfl, rfl, rfl, w1⟩ := open_int Try.underlying3 (hval 1 3 v1 rfl rfl) h1
  obtain ⟨a2, rfl, rfl, rfl, w2⟩ := open_int Try.underlying3 (hval 2 3 v2 rfl rfl) h2
  clear hA0 hval0
  refine (walk a0 n0 c0 z0 a1 a2 W w0 e0 l0 w1 w2).mono fun e W' ⟨he, bel⟩ => ?_
  subst he
  exact ⟨_, rfl, _, _, _, [], _, [], hW', trodAll_mk1 (shut_bool Try.underlying4 _), (trodAll_cons_mk (Below.trod laidOut (by kernel_rfl) (of_decide_eq_true (by kernel_rfl)) k0 bel lt0) (trodAll_cons_mk (shut_int Try.underlying3 w1) (trodAll_cons_mk (shut_int Try.underlying3 w2) trodAll_mk0))), rfl, bel.frame _, fun h => by cases h⟩

set_option maxRecDepth 100000 in
theorem lifted (os : Os) (started : os.Started) (H : Type) (enc : TypeId × Value → H) :
    ReturnsInHanded {} Try.checked os 5 .any (Rows.pickFewerSpec.pre6 enc Try.prog Try.f5 Rows.pickFewerRow.domain false) (Rows.pickFewerSpec.post enc Try.prog Try.f5 false true false false) := by
  refine returnsInHanded_of_change (C := Try.checked) own started (by kernel_rfl) Try.func5
    (ChangeSpec.witness6 (enc := enc) (C := Try.checked) false ⟨#[], #[.slice none 0 0, .int .i64 0, .int .i64 0], []⟩ 8 (by kernel_rfl) (by kernel_rfl) (by kernel_rfl) (by kernel_rfl)) ?_
  intro W base args ds gs before hval hW _ _
  exact contract H enc W base args ds gs before hval hW

theorem over : Rows.pickFewerRow.holds Try.pinned (OpenSpec.ofChange Rows.pickFewerSpec) :=
  OpenClaim.holds_of_wide 5 Try.f5 rfl rfl rfl rfl rfl rfl rfl ⟨rfl, rfl, rfl, rfl, rfl⟩ rfl rfl rfl rfl rfl (by kernel_rfl) Try.func5 (by kernel_rfl)
    (of_decide_eq_true (by kernel_rfl)) (by unfold Func.isWrapper; first | (rw [if_pos (by decide +kernel)]; kernel_rfl) | (rw [if_neg (by decide +kernel)]; exact ⟨rfl, rfl⟩))
    (fun os started H enc _ => lifted os started H enc)

theorem proved : Rows.PickFewerSaid :=
  over
#print axioms proved
end Go.Proofs.Ytefkbfmckoidaaa.pickFewer
