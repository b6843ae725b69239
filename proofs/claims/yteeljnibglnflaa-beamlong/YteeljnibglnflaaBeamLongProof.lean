/- For every score, all lengths and every penalty the Go function BeamLong returns true (of two beams of one score that is not above nought the longer one's final score is not less; with penalty nought it is the score); no condition. -/
import Derived.Test.YteeljnibglnflaaRows
import Derived.Test.YteeljnibglnflaaView
import Derived.Test.YteeljnibglnflaaOwn
import Derived.Test.YteeljnibglnflaaWhere
import Derived.Test.YteeljnibglnflaaWorks
import Derived.Test.YteeljnibglnflaaSteps
import Derived.Test.YteeljnibglnflaaSat
import Derived.Test.YteeljnibglnflaaSatRef
import Derived.Test.YteeljnibglnflaaRanks
import Derived.Test.YteeljnibglnflaaRank
import Derived.Test.YteeljnibglnflaaRefTop
import Derived.Test.YteeljnibglnflaaGSameI
import Derived.Test.YteeljnibglnflaaGMean
import Derived.Test.YteeljnibglnflaaBmZ
import Derived.Test.YteeljnibglnflaaBmAt
import Derived.Test.YteeljnibglnflaaBmFin
import Derived.Test.YteeljnibglnflaaBmFits
import Derived.Test.YteeljnibglnflaaBmWhole
import Derived.Test.YteeljnibglnflaaBmCd
import Derived.Test.YteeljnibglnflaaBmCand
import Derived.Test.YteeljnibglnflaaBmGI
import Derived.Test.YteeljnibglnflaaBmGrow
import Derived.Test.YteeljnibglnflaaBmReg
import Derived.Test.YteeljnibglnflaaBmRun
import Derived.Test.YteeljnibglnflaaBmTo
import Derived.Test.YteeljnibglnflaaBmSame
import Derived.Test.YteeljnibglnflaaBmBest
import Derived.Test.YteeljnibglnflaaBmGreat
import Derived.Test.YteeljnibglnflaaBmWorks
import Derived.Test.YteeljnibglnflaaBmLongZ
import Derived.Test.YteeljnibglnflaaBmRegG
import Derived.Test.YteeljnibglnflaaBmRegL
import Derived.Test.YteeljnibglnflaaBmRunO
import Derived.Test.YteeljnibglnflaaGInvIn
import Derived.WalkKit
import Derived.ProofKit
import Derived.OpenShut
import Derived.ChangeOld
import Derived.Below
import Derived.WalkLawsBesides
import Derived.ChangeMaps5
import Derived.Deep.Cut
import Derived.Deep.CutRange
import Derived.Deep.CutBlock
import Derived.Laws.OwnMore
import Derived.Deep.QuietTactic
import Derived.BigQuiet
import Derived.Laws.AppendOwnNone
namespace Go.Proofs.Yteeljnibglnflaa.beamLong
set_option maxRecDepth 20000
open Go.ChangeShapes Go.WideShapes Go.ChangeAt Go.RowKit
set_option linter.unusedVariables false
set_option linter.unusedSimpArgs false

theorem own : ownKnob Try.prog.godebug = none := by kernel_rfl
theorem laidOut : laidOutB Try.prog = true := by kernel_rfl



theorem four_heap (W : World) (o1 o2 o3 o4 : Obj) : ((((W.alloc o1).alloc o2).alloc o3).alloc o4).drew.heap[W.heap.size]? = some o1 ∧ ((((W.alloc o1).alloc o2).alloc o3).alloc o4).drew.heap[W.heap.size + 1]? = some o2 ∧ ((((W.alloc o1).alloc o2).alloc o3).alloc o4).drew.heap[W.heap.size + 1 + 1]? = some o3 ∧ ((((W.alloc o1).alloc o2).alloc o3).alloc o4).drew.heap[W.heap.size + 1 + 1 + 1]? = some o4 := by
  have k : ∀ (U : World) (o : Obj) (i : Nat), i < U.heap.size → (U.alloc o).heap[i]? = U.heap[i]? := fun U o i hi => (below_new (Below.refl U.heap.size U) o).block i hi
  have n : ∀ (U : World) (o : Obj), (U.alloc o).heap[U.heap.size]? = some o := fun U o => heap_alloc_new U o
  have s : ∀ (U : World) (o : Obj), (U.alloc o).heap.size = U.heap.size + 1 := fun U o => by simp
  show ((((W.alloc o1).alloc o2).alloc o3).alloc o4).heap[W.heap.size]? = some o1 ∧ ((((W.alloc o1).alloc o2).alloc o3).alloc o4).heap[W.heap.size + 1]? = some o2 ∧ ((((W.alloc o1).alloc o2).alloc o3).alloc o4).heap[W.heap.size + 1 + 1]? = some o3 ∧ ((((W.alloc o1).alloc o2).alloc o3).alloc o4).heap[W.heap.size + 1 + 1 + 1]? = some o4
  have n2 := n (W.alloc o1) o2
  have n3 := n ((W.alloc o1).alloc o2) o3
  have n4 := n (((W.alloc o1).alloc o2).alloc o3) o4
  simp only [s] at n2 n3 n4
  refine ⟨?_, ?_, ?_, n4⟩
  · rw [k _ _ _ (by simp only [s]; omega), k _ _ _ (by simp only [s]; omega), k _ _ _ (by simp only [s]; omega), n]
  · rw [k _ _ _ (by simp only [s]; omega), k _ _ _ (by simp only [s]; omega), n2]
  · rw [k _ _ _ (by simp only [s]; omega), n3]
theorem cell_of {V : World} {b : Nat} {cs : Array Value} {t : TypeId} (h : V.heap[b]? = some (.cells cs t (0, 0))) (j : Nat) (v : Value) (hv : cs[j]? = some v) : V.cell? ⟨b, j, none⟩ = some v := by
  unfold World.cell?
  rw [h]
  exact hv
theorem rel_of {w V : World} {B9 B10 : Nat} {mn mx : Nat} {S : Int} {ya yb : Option Addr} (h9 : V.heap[B9]? = some (.cells #[.slice ya mn mn, .int .i64 S, .bool false] 40 (0, 0))) (h10 : V.heap[B10]? = some (.cells #[.slice yb mx mx, .int .i64 S, .bool false] 40 (0, 0))) (hb : Below w.heap.size w V) :
    ∃ b9 b10 xa xb, Value.pointer (some ⟨B9, 0, none⟩) = .pointer (some ⟨b9, 0, none⟩) ∧ Value.pointer (some ⟨B10, 0, none⟩) = .pointer (some ⟨b10, 0, none⟩) ∧ (V.cell? ⟨b9, 0, none⟩ = some (.slice xa mn mn) ∧ V.cell? ⟨b9, 1, none⟩ = some (.int .i64 S) ∧ V.cell? ⟨b9, 2, none⟩ = some (.bool false)) ∧ (V.cell? ⟨b10, 0, none⟩ = some (.slice xb mx mx) ∧ V.cell? ⟨b10, 1, none⟩ = some (.int .i64 S) ∧ V.cell? ⟨b10, 2, none⟩ = some (.bool false)) ∧ Below w.heap.size w V :=
  ⟨B9, B10, ya, yb, rfl, rfl, ⟨cell_of h9 0 _ rfl, cell_of h9 1 _ rfl, cell_of h9 2 _ rfl⟩, ⟨cell_of h10 0 _ rfl, cell_of h10 1 _ rfl, cell_of h10 2 _ rfl⟩, hb⟩
theorem mod50 (a : Int) : ∃ x : Nat, x < 50 ∧ wrap64 ((IntKind.u64.wrap a).tmod 50) = (x : Int) := by
  have h0 : 0 ≤ IntKind.u64.wrap a := by rw [IntKind.wrap_u64]; omega
  rw [Int.tmod_eq_emod_of_nonneg h0]
  generalize IntKind.u64.wrap a = b at *
  refine ⟨(b % 50).toNat, by omega, ?_⟩
  simp only [wrap64]
  omega
theorem run_eql2 (a : Int) (w : World) : (binOp .eql 2 (.int .i64 a) (.int .i64 a)).run Try.prog w = .ok (.bool true) w := by go_simp
theorem run_geq2t (a b : Int) (h : b ≤ a) (w : World) : (binOp .geq 2 (.int .i64 a) (.int .i64 b)).run Try.prog w = .ok (.bool true) w := by go_simp


set_option maxHeartbeats 2000000 in
set_option maxRecDepth 20000 in
theorem walk (a0 : Int) (a1 : Int) (a2 : Int) (a3 : Int) (w : World) (w0 : (Lit.int .i64 a0).wf = true) (w1 : (Lit.int .i64 a1).wf = true) (w2 : (Lit.int .i64 a2).wf = true) (w3 : (Lit.int .i64 a3).wf = true) :
    Calls Try.prog 7 #[.int .i64 a0, .int .i64 a1, .int .i64 a2, .int .i64 a3] w fun e w' => e = .returned (.bool true) ∧ Below w.heap.size w w' := by
  obtain ⟨S1, eS1⟩ : ∃ S, min 0 a0 = S := ⟨_, rfl⟩
  obtain ⟨S, eS⟩ : ∃ S, max (-2147483648) S1 = S := ⟨_, rfl⟩
  have hS1 : -2147483648 ≤ S := by omega
  have hS2 : S ≤ 0 := by omega
  have kw := fun W => works_call W
  go_enter Try.func7, Try.ntmps7
  go_wp2_with (go_at_call 19; refine (kw _).mono ?_; rintro e W1 ⟨rfl, hb1⟩; clear kw)
  obtain ⟨x, hx, ex⟩ := mod50 a1
  obtain ⟨y, hy, ey⟩ := mod50 a2
  rw [ex, ey]
  clear ex ey eS eS1
  obtain ⟨mn, emn⟩ : ∃ m, min x y = m := ⟨_, rfl⟩
  obtain ⟨mx, emx⟩ : ∃ m, max x y = m := ⟨_, rfl⟩
  have zn : min (x : Int) (y : Int) = (mn : Int) := by omega
  have zx : max (x : Int) (y : Int) = (mx : Int) := by omega
  have hmn : mn ≤ mx ∧ mx ≤ 50 := by omega
  obtain ⟨hmn, hmx⟩ := hmn
  clear emn emx
  have k1 := run_make_row' (P := Try.prog) 29 3 (.int .i64 0) 8 Try.underlying29 info3 rfl .i64 .i64 mn (by omega) (by omega)
  have k2 := run_make_row' (P := Try.prog) 29 3 (.int .i64 0) 8 Try.underlying29 info3 rfl .i64 .i64 mx (by omega) (by omega)
  go_cut [9, 10] from 24 to 35 (fun v9 v10 W => ∃ b9 b10 xa xb, v9 = .pointer (some ⟨b9, 0, none⟩) ∧ v10 = .pointer (some ⟨b10, 0, none⟩) ∧ (W.cell? ⟨b9, 0, none⟩ = some (.slice xa mn mn) ∧ W.cell? ⟨b9, 1, none⟩ = some (.int .i64 S) ∧ W.cell? ⟨b9, 2, none⟩ = some (.bool false)) ∧ (W.cell? ⟨b10, 0, none⟩ = some (.slice xb mx mx) ∧ W.cell? ⟨b10, 1, none⟩ = some (.int .i64 S) ∧ W.cell? ⟨b10, 2, none⟩ = some (.bool false)) ∧ Below w.heap.size w W)
  case first =>
    go_region
    all_goals (
      go_wp2
      go_meet
      case rel =>
        have hb4 := fun o1 o2 o3 o4 => below_drew (below_new (below_new (below_new (below_new hb1 o1) o2) o3) o4) ⟨1, rfl⟩
        first | exact rel_of (four_heap W1 _ _ _ _).1 (four_heap W1 _ _ _ _).2.1 (hb4 _ _ _ _) | exact rel_of (four_heap W1 _ _ _ _).1 (four_heap W1 _ _ _ _).2.2.1 (hb4 _ _ _ _) | exact rel_of (four_heap W1 _ _ _ _).1 (four_heap W1 _ _ _ _).2.2.2 (hb4 _ _ _ _) | exact rel_of (four_heap W1 _ _ _ _).2.1 (four_heap W1 _ _ _ _).1 (hb4 _ _ _ _) | exact rel_of (four_heap W1 _ _ _ _).2.1 (four_heap W1 _ _ _ _).2.2.1 (hb4 _ _ _ _) | exact rel_of (four_heap W1 _ _ _ _).2.1 (four_heap W1 _ _ _ _).2.2.2 (hb4 _ _ _ _) | exact rel_of (four_heap W1 _ _ _ _).2.2.1 (four_heap W1 _ _ _ _).1 (hb4 _ _ _ _) | exact rel_of (four_heap W1 _ _ _ _).2.2.1 (four_heap W1 _ _ _ _).2.1 (hb4 _ _ _ _) | exact rel_of (four_heap W1 _ _ _ _).2.2.1 (four_heap W1 _ _ _ _).2.2.2 (hb4 _ _ _ _) | exact rel_of (four_heap W1 _ _ _ _).2.2.2 (four_heap W1 _ _ _ _).1 (hb4 _ _ _ _) | exact rel_of (four_heap W1 _ _ _ _).2.2.2 (four_heap W1 _ _ _ _).2.1 (hb4 _ _ _ _) | exact rel_of (four_heap W1 _ _ _ _).2.2.2 (four_heap W1 _ _ _ _).2.2.1 (hb4 _ _ _ _))
  case rest =>
    obtain ⟨b9, b10, xa, xb, rfl, rfl, ⟨c0, c1, c2⟩, ⟨d0, d1, d2⟩, hb5⟩ := hcut
    clear k1 k2 zn zx hb1
    obtain ⟨h1, h2, h3⟩ := long_plain S a3 mn mx hS1 hS2 hmn
    obtain ⟨f1, ef1⟩ : ∃ f, divZ S (65536 + 4096 * (min 64 (max 0 a3)) * (min 1000 (mn : Int))) = f := ⟨_, rfl⟩
    obtain ⟨f2, ef2⟩ : ∃ f, divZ S (65536 + 4096 * (min 64 (max 0 a3)) * (min 1000 (mx : Int))) = f := ⟨_, rfl⟩
    rw [ef1, ef2] at h1
    rw [ef1] at h3
    have hwf : (Lit.int .i64 S).wf = true := WalkArith.wf_i64 ⟨by omega, by omega⟩
    obtain ⟨W5, eW5⟩ : ∃ W5, wc = W5 := ⟨_, rfl⟩
    rw [eW5] at c0 c1 c2 d0 d1 d2 hb5 ⊢
    clear eW5
    go_wp2
    refine lf_region b9 b10 mn mx xa xb S a3 f1 f2 ((fun W => Below w.heap.size w W ∧ ∀ p v, W5.cell? p = some v → W.cell? p = some v)) (by kernel_rfl) rfl ⟨_, rfl, rfl, rfl, rfl, by kernel_rfl⟩ ⟨_, rfl, rfl, rfl, rfl, by kernel_rfl⟩ ⟨_, rfl, rfl, rfl, rfl, by kernel_rfl⟩ ⟨_, rfl, rfl, rfl, rfl, by kernel_rfl⟩ ⟨_, rfl, rfl, rfl, rfl, by kernel_rfl⟩ ⟨_, rfl, rfl, rfl, rfl, by kernel_rfl⟩ ⟨_, rfl, rfl, rfl, rfl, by kernel_rfl⟩ ⟨_, rfl, rfl, rfl, rfl, by kernel_rfl⟩ ⟨_, rfl, rfl, rfl, rfl, by kernel_rfl⟩ ⟨_, rfl, rfl, rfl, rfl, by kernel_rfl⟩ ⟨_, rfl, rfl, rfl, rfl, by kernel_rfl⟩ ⟨_, rfl, rfl, rfl, rfl, by kernel_rfl⟩ ⟨_, rfl, rfl, rfl, rfl, by kernel_rfl⟩ ⟨_, rfl, rfl, rfl, rfl, by kernel_rfl⟩ ⟨_, rfl, rfl, rfl, rfl, by kernel_rfl⟩ ⟨_, rfl, rfl, rfl, rfl, by kernel_rfl⟩ ⟨_, rfl, rfl, rfl, rfl, by kernel_rfl⟩ ⟨_, rfl, rfl, rfl, rfl, by kernel_rfl⟩ ⟨_, rfl, rfl, rfl, rfl, by kernel_rfl⟩ ⟨_, rfl, rfl, rfl, rfl, by kernel_rfl⟩ ⟨_, rfl, rfl, rfl, rfl, by kernel_rfl⟩ ⟨below_drew hb5 ⟨1, rfl⟩, fun _ _ h => h⟩ (fun W h => by have h0 := h.2 _ _ c0; have h1 := h.2 _ _ c1; have h2 := h.2 _ _ c2; go_simp) (fun W h => (final_call xa mn mn S a3 false hwf (by omega) W).mono (by rintro e W' ⟨rfl, hb⟩; exact ⟨by rw [ef1], hb, below_then h.1 hb, fun p v hp => below_cell hb (h.2 p v hp)⟩)) (fun W h => by have h0 := h.2 _ _ d0; have h1 := h.2 _ _ d1; have h2 := h.2 _ _ d2; go_simp) (fun W h => (final_call xb mx mx S a3 false hwf (by omega) W).mono (by rintro e W' ⟨rfl, hb⟩; exact ⟨by rw [ef2], hb, below_then h.1 hb, fun p v hp => below_cell hb (h.2 p v hp)⟩)) (fun W => by go_simp) (fun W h => by have h0 := h.2 _ _ c0; have h1 := h.2 _ _ c1; have h2 := h.2 _ _ c2; go_simp) (fun W h => (final_call xa mn mn S 0 false hwf (by omega) W).mono (by rintro e W' ⟨rfl, hb⟩; exact ⟨by rw [h2], hb, below_then h.1 hb, fun p v hp => below_cell hb (h.2 p v hp)⟩)) (run_eql2 _) (fun W h => by have h0 := h.2 _ _ c0; have h1 := h.2 _ _ c1; have h2 := h.2 _ _ c2; go_simp) (fun W h => (final_call xa mn mn S a3 false hwf (by omega) W).mono (by rintro e W' ⟨rfl, hb⟩; exact ⟨by rw [ef1], hb, below_then h.1 hb, fun p v hp => below_cell hb (h.2 p v hp)⟩)) (run_geq2t _ _ h3) rfl rfl rfl rfl (Nat.le_of_ble_eq_true rfl) ?_
    intro a W6 hs hd hkp hS9 hval
    have e8 : a.tmps.getD 8 undef = .bool true := hval 20 8 (by decide) rfl
    have ep := frame_puts [36, 37, 38, 39, 40, 41, 42, 43, 44, 45, 46, 47, 48, 49, 50, 51, 52, 53, 54, 55, 8] hs hd (fun s h => hkp s (fun i hi e => h (by
      rcases (show i = 0 ∨ i = 1 ∨ i = 2 ∨ i = 3 ∨ i = 4 ∨ i = 5 ∨ i = 6 ∨ i = 7 ∨ i = 8 ∨ i = 9 ∨ i = 10 ∨ i = 11 ∨ i = 12 ∨ i = 13 ∨ i = 14 ∨ i = 15 ∨ i = 16 ∨ i = 17 ∨ i = 18 ∨ i = 19 ∨ i = 20 by omega) with rfl | rfl | rfl | rfl | rfl | rfl | rfl | rfl | rfl | rfl | rfl | rfl | rfl | rfl | rfl | rfl | rfl | rfl | rfl | rfl | rfl <;> (simp only [lfD, Option.some.injEq] at e; subst e; simp))))
    simp only [List.foldl] at ep
    rw [e8] at ep
    have H9 := hidden_ hS9
    clear hs hd hkp hval hS9 e8
    generalize a.tmps.getD 36 undef = g36 at ep
    generalize a.tmps.getD 37 undef = g37 at ep
    generalize a.tmps.getD 38 undef = g38 at ep
    generalize a.tmps.getD 39 undef = g39 at ep
    generalize a.tmps.getD 40 undef = g40 at ep
    generalize a.tmps.getD 41 undef = g41 at ep
    generalize a.tmps.getD 42 undef = g42 at ep
    generalize a.tmps.getD 43 undef = g43 at ep
    generalize a.tmps.getD 44 undef = g44 at ep
    generalize a.tmps.getD 45 undef = g45 at ep
    generalize a.tmps.getD 46 undef = g46 at ep
    generalize a.tmps.getD 47 undef = g47 at ep
    generalize a.tmps.getD 48 undef = g48 at ep
    generalize a.tmps.getD 49 undef = g49 at ep
    generalize a.tmps.getD 50 undef = g50 at ep
    generalize a.tmps.getD 51 undef = g51 at ep
    generalize a.tmps.getD 52 undef = g52 at ep
    generalize a.tmps.getD 53 undef = g53 at ep
    generalize a.tmps.getD 54 undef = g54 at ep
    generalize a.tmps.getD 55 undef = g55 at ep
    simp only [Act.put, List.setIfInBounds_toArray, List.set_cons_succ, List.set_cons_zero] at ep
    subst ep
    obtain ⟨hb6, -⟩ := H9.out
    clear H9
    go_wp2
    go_ret
    exact ⟨rfl, hb6⟩

theorem contract (H : Type) (enc : TypeId × Value → H) (W : World) (base : Nat) (args : Array Value) (ds gs : List (DataW H)) (before : List MemPlace)
    (hval0 : ∀ (j : Nat) t v, Try.f7.params[j]? = some t → args[j]? = some v → Value.okWide Try.prog W .any base t v)
    (hW : DataW.Whole enc Try.prog Try.f7.params.toList Rows.beamLongSpec.vars false W args.toList ds gs before) :
    Calls Try.prog 7 args W fun e W' => ∃ v, e = .returned v ∧ Rows.beamLongSpec.post enc Try.prog Try.f7 false true false false W args v W' := by
  have hval : ∀ (j : Nat) t v, Try.f7.params[j]? = some t → args[j]? = some v → Value.okWide Try.prog W .any base t v := hval0
  have hW' := hW
  obtain ⟨p, q, hA0, hV, rfl, hfz, hnd⟩ := hW
  have hA : DataW.TrodAll enc Try.prog W 0 (fun _ => true) true Try.f7.params.toList args.toList ds p := hA0
  rw [Try.params7] at hA hval
  obtain ⟨v0, vs0, d0, ds0, p0, q0, hargs, rfl, rfl, h0, r0⟩ := trodAll_cons hA
  obtain ⟨v1, vs1, d1, ds1, p1, q1, rfl, rfl, rfl, h1, r1⟩ := trodAll_cons r0
  obtain ⟨v2, vs2, d2, ds2, p2, q2, rfl, rfl, rfl, h2, r2⟩ := trodAll_cons r1
  obtain ⟨v3, vs3, d3, ds3, p3, q3, rfl, rfl, rfl, h3, r3⟩ := trodAll_cons r2
  obtain ⟨rfl, rfl, rfl⟩ := trodAll_nil r3
  obtain rfl : args = #[v0, v1, v2, v3] := by cases args; simp_all
  obtain ⟨rfl, rfl⟩ := trodVars_none hV
  obtain ⟨a0, rfl, rfl, rfl, w0⟩ := open_int Try.underlying2 (hval 0 2 v0 rfl rfl) h0
  obtain ⟨a1, rfl, rfl, rfl, w1⟩ := open_int Try.underlying3 (hval 1 3 v1 rfl rfl) h1
  obtain ⟨a2, rfl, rfl, rfl, w2⟩ := open_int Try.underlying3 (hval 2 3 v2 rfl rfl) h2
  obtain ⟨a3, rfl, rfl, rfl, w3⟩ := open_int Try.underlying3 (hval 3 3 v3 rfl rfl) h3
  clear hA0 hval0
  refine (walk a0 a1 a2 a3 W w0 w1 w2 w3).mono fun e W' ⟨he, bel⟩ => ?_
  subst he
  exact ⟨_, rfl, _, _, _, [], _, [], hW', trodAll_mk1 (shut_bool Try.underlying4 _), (trodAll_cons_mk (shut_int Try.underlying2 w0) (trodAll_cons_mk (shut_int Try.underlying3 w1) (trodAll_cons_mk (shut_int Try.underlying3 w2) (trodAll_cons_mk (shut_int Try.underlying3 w3) trodAll_mk0)))), rfl, bel.frame _, fun h => by cases h⟩

set_option maxRecDepth 100000 in
theorem lifted (os : Os) (started : os.Started) (H : Type) (enc : TypeId × Value → H) :
    ReturnsInHanded {} Try.checked os 7 .any (Rows.beamLongSpec.pre6 enc Try.prog Try.f7 Rows.beamLongRow.domain false) (Rows.beamLongSpec.post enc Try.prog Try.f7 false true false false) := by
  refine returnsInHanded_of_change (C := Try.checked) own started (by kernel_rfl) Try.func7
    (ChangeSpec.witness6 (enc := enc) (C := Try.checked) false ⟨#[], #[.int .i64 0, .int .i64 0, .int .i64 0, .int .i64 0], []⟩ 8 (by kernel_rfl) (by kernel_rfl) (by kernel_rfl) (by kernel_rfl)) ?_
  intro W base args ds gs before hval hW _ _
  exact contract H enc W base args ds gs before hval hW

theorem over : Rows.beamLongRow.holds Try.pinned (OpenSpec.ofChange Rows.beamLongSpec) :=
  OpenClaim.holds_of_wide 7 Try.f7 rfl rfl rfl rfl rfl rfl rfl ⟨rfl, rfl, rfl, rfl, rfl⟩ rfl rfl rfl rfl rfl (by kernel_rfl) Try.func7 (by kernel_rfl)
    (of_decide_eq_true (by kernel_rfl)) (by unfold Func.isWrapper; first | (rw [if_pos (by decide +kernel)]; kernel_rfl) | (rw [if_neg (by decide +kernel)]; exact ⟨rfl, rfl⟩))
    (fun os started H enc _ => lifted os started H enc)

theorem proved : Rows.BeamLongSaid :=
  over
#print axioms proved
end Go.Proofs.Yteeljnibglnflaa.beamLong
