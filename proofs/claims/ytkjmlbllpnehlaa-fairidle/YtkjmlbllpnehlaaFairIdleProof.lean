/- Tenants of one weight, of whom the one comes late, are served in turn from then on, at 60c58327. -/
import Derived.Test.YtkjmlbllpnehlaaRows
import Derived.Test.YtkjmlbllpnehlaaView
import Derived.Test.YtkjmlbllpnehlaaOwn
import Derived.Test.YtkjmlbllpnehlaaBase
import Derived.Test.YtkjmlbllpnehlaaFkZ
import Derived.Test.YtkjmlbllpnehlaaFkBy
import Derived.Test.YtkjmlbllpnehlaaFkAt
import Derived.Test.YtkjmlbllpnehlaaFkNew
import Derived.Test.YtkjmlbllpnehlaaFkNext
import Derived.Test.YtkjmlbllpnehlaaFkWorks
import Derived.Test.YtkjmlbllpnehlaaMapI
import Derived.Test.YtkjmlbllpnehlaaTurned
import Derived.Test.YtkjmlbllpnehlaaIdleZ
import Derived.WalkKit
import Derived.ProofKit
import Derived.OpenShut
import Derived.ChangeOld
import Derived.Below
import Derived.WalkLawsBesides
import Derived.ChangeMaps5
import Derived.Deep.Cut
import Derived.OwnWalk
import Derived.Maps.OwnSet
import Derived.Maps.OwnOps
namespace Go.Proofs.Ytkjmlbllpnehlaa.fairIdle
open Go.ChangeShapes Go.WideShapes Go.ChangeAt Go.RowKit
set_option linter.unusedVariables false
set_option linter.unusedSimpArgs false

theorem own : ownKnob Try.prog.godebug = none := by kernel_rfl
theorem laidOut : laidOutB Try.prog = true := by kernel_rfl

theorem okW2 (V : Nat) (h1 : 1 ≤ V) (h2 : V ≤ 16) : okW [(V : Int), (V : Int)] = true := by
  have : noW (V : Int) = false := by simp [noW]; omega
  simp [okW, this]
theorem tick_pos (V : Nat) (h1 : 1 ≤ V) (h2 : V ≤ 16) : 0 < tick 10 (V : Int) := by
  obtain ⟨-, -, -, q0, -, -, q⟩ := tick_ok (co := 10) (w := (V : Int)) (by omega) (by omega) (by omega) (by omega)
  unfold tick
  obtain ⟨Q, eQ⟩ : ∃ Q, 720720 / (V : Int) = Q := ⟨_, rfl⟩
  rw [eQ] at q q0 ⊢
  rcases (show Q = 0 ∨ 0 < Q by omega) with e | e
  · rw [e] at q
    simp at q
  · omega


set_option maxHeartbeats 4000000 in
set_option maxRecDepth 20000 in
theorem walk (a0 : Int) (a1 : Int) (a2 : Int) (w : World) (w0 : (Lit.int .i64 a0).wf = true) (w1 : (Lit.int .i64 a1).wf = true) (w2 : (Lit.int .i64 a2).wf = true) :
    Calls Try.prog 6 #[.int .i64 a0, .int .i64 a1, .int .i64 a2] w fun e w' => e = .returned (.bool true) ∧ Below w.heap.size w w' := by
  obtain ⟨P, hP, p1, p2⟩ := restN a0 16 (by decide)
  obtain ⟨b, hb, b1, b2⟩ := restN a1 40 (by decide)
  obtain ⟨N0, hN0, n1, n2⟩ := restN a2 8 (by decide)
  obtain ⟨V, eV⟩ : ∃ V : Nat, 1 + P = V := ⟨_, rfl⟩
  obtain ⟨N, eN⟩ : ∃ N : Nat, 1 + N0 = N := ⟨_, rfl⟩
  have v1 : (1 : Int) + (P : Int) = (V : Int) := by omega
  have v2 : (1 : Int) + (N0 : Int) = (N : Int) := by omega
  have v3 : 1 ≤ V ∧ V ≤ 16 := by omega
  have v4 : 1 ≤ N ∧ N ≤ 8 := by omega
  have v4' : (N : Int) ≤ 8 := by omega
  have v5 : b < 40 := by omega
  replace p1 := show (IntKind.u64.wrap a0).tmod 16 = (P : Int) from p1
  replace p2 := show IntKind.u64.wrap a0 % 16 = (P : Int) from p2
  replace b1 := show (IntKind.u64.wrap a1).tmod 40 = (b : Int) from b1
  replace b2 := show IntKind.u64.wrap a1 % 40 = (b : Int) from b2
  replace n1 := show (IntKind.u64.wrap a2).tmod 8 = (N0 : Int) from n1
  replace n2 := show IntKind.u64.wrap a2 % 8 = (N0 : Int) from n2
  have hok := okW2 V v3.1 v3.2
  obtain ⟨T, eT⟩ : ∃ T, tick 10 (V : Int) = T := ⟨_, rfl⟩
  have hT := hidden_ (show 0 < T ∧ tick 10 (V : Int) = T from ⟨by rw [← eT]; exact tick_pos V v3.1 v3.2, eT⟩)
  have kW := works_call w
  have kN := fun W => new_yes (lit2_reads W (V : Int) (V : Int) (wf_i64 (by omega) (by omega)) (wf_i64 (by omega) (by omega))) (c := 2) hok
  have hF0 := hidden_ (show FrOk 0 (newF [(V : Int), (V : Int)]) ∧ St1 (V : Int) T 0 (newF [(V : Int), (V : Int)]) from ⟨newF_ok hok, rfl, rfl, rfl, rfl, by show (0 : Int) = ((0 : Nat) : Int) * T; simp, rfl, by show (0 : Int) = ((0 - 1 : Nat) : Int) * T; simp⟩)
  clear eV eN hok eT hP hN0 hb
  go_enter Try.func6, Try.ntmps6
  go_wp2_with (first
    | (go_at_call 19; refine kW.mono ?_; rintro e W0 ⟨rfl, hb0⟩; have HB0 := hidden_ hb0; have k7 := kN W0; clear kW hb0 kN)
    | (go_at_call 7; refine k7.mono ?_; rintro e W1 ⟨f, rfl, h1, h2⟩; have hI : Hid (FrIn w.heap.size w W1 f (newF [(V : Int), (V : Int)])) := ⟨h1 _ (Nat.le_trans HB0.out.size (below_new (Below.refl _ _) _).size), below_then (below_new HB0.out _) h2⟩; clear h1 h2 k7))
  clear HB0 p1 p2 b1 b2 n1 n2 v1 v2
  go_loopw [9, 10] (fun q i wr => ∃ j : Nat, j ≤ b ∧ i = .int .i64 j ∧ q = .int .i64 j ∧ ∃ s, Hid (FrOk j s ∧ St1 (V : Int) T j s ∧ FrIn w.heap.size w wr f s)) (fun _ i _ => b - (intOf i).toNat)
  case atStart => exact ⟨0, Nat.zero_le _, rfl, rfl, _, hF0.out.1, hF0.out.2, hI.out⟩
  case round =>
    clear hF0 hI
    obtain ⟨j, hj, rfl, rfl, s, hS⟩ := hrel
    by_cases hlt : j < b
    · have hlt' : (j : Int) < (b : Int) := by omega
      obtain ⟨e0, hs1⟩ := step1 hT.out.1 hT.out.2 hS.out.2.1 (j : Int)
      have kA := hS.out.2.2.add hS.out.1 (by omega) 0 (j : Int) 10
      rw [e0] at kA
      have hok1 : FrOk j (addS s 0 (j : Int) 10) := hS.out.1.addS (wf_i64 (by omega) (by omega))
      have kX := fun W (h : FrIn w.heap.size w W f (addS s 0 (j : Int) 10)) => h.next hok1 (by omega)
      obtain ⟨Y, eY⟩ : ∃ Y, nextV (nextO (addS s 0 (j : Int) 10)) = Y := ⟨_, rfl⟩
      simp only [eY] at kX
      have HS1 := hidden_ (And.intro hok1.nextS hs1)
      clear e0 hs1 hok1 eY hS
      go_wp2_with (first
        | (go_at_call 9; refine kA.mono ?_; rintro e W2 ⟨rfl, h1, -⟩; have k11 := kX W2 h1; clear h1 kA kX)
        | (go_at_call 11; refine k11.mono ?_; rintro e W3 ⟨rfl, h1, -⟩; have hq := hidden_ h1; clear h1 k11))
      go_roundw
      case rel => exact ⟨j + 1, by omega, by go_num, by go_num, _, HS1.out.1, HS1.out.2, hq.out⟩
      case measure => simp [intOf]; omega
    · have e : j = b := by omega
      rw [e] at hS
      have hjb : ¬ (j : Int) < (b : Int) := by omega
      have hjI : (j : Int) = (b : Int) := by omega
      have hb1 := below_new (Below.refl wr.heap.size wr) (.map #[] 0)
      have hM : Hid (FrOk b s ∧ St2 (V : Int) T b (2 * 0) s ∧ FrIn w.heap.size w (wr.alloc (.map #[] 0)) f s ∧ MapI (wr.alloc (.map #[] 0)) wr.heap.size (2 * 0) (fM b (2 * 0))) := ⟨hS.out.1, hS.out.2.1.to2, hS.out.2.2.more hb1, by rw [show 2 * 0 = 0 from rfl, fM_zero]; exact MapI.made wr⟩
      have hB := hidden_ (show w.heap.size ≤ wr.heap.size by obtain ⟨g, A, hF⟩ := hS.out.2.2.at_; exact hF.lt.2.2)
      have hmm := @run_makeMap Try.prog
      have hjle : j ≤ 39 := by omega
      clear hb1 hS hlt e hj
      go_wp2
      rename World => G
      go_loopw [9, 12] (fun q x wr => ∃ i z : Nat, i ≤ N ∧ x = .int .i64 i ∧ q = .int .i64 z ∧ ∃ s, Hid (z = b + 2 * i ∧ FrOk b s ∧ St2 (V : Int) T b (2 * i) s ∧ FrIn w.heap.size w wr f s ∧ MapI wr G.heap.size (2 * i) (fM b (2 * i)))) (fun _ x _ => N - (intOf x).toNat)
      case atStart => exact ⟨0, b, Nat.zero_le _, rfl, rfl, s, by omega, hM.out.1, hM.out.2.1, hM.out.2.2.1, hM.out.2.2.2⟩
      case round =>
        clear hM
        rename Fr => s00
        obtain ⟨i, z, hi, rfl, rfl, s, hS⟩ := hrel
        by_cases hlt : i < N
        · have hlt' : (i : Int) < (N : Int) := by omega
          go_wp2
          rename World => G2
          go_loopw [9, 13] (fun q x wr => ∃ t y : Nat, t ≤ 2 ∧ x = .int .i64 t ∧ q = .int .i64 y ∧ ∃ s, Hid (y = b + (2 * i + t) ∧ FrOk b s ∧ St2 (V : Int) T b (2 * i + t) s ∧ FrIn w.heap.size w wr f s ∧ MapI wr G.heap.size (2 * i + t) (fM b (2 * i + t)))) (fun _ x _ => 2 - (intOf x).toNat)
          case atStart => exact ⟨0, z, by omega, rfl, rfl, s, hS.out.1, hS.out.2.1, hS.out.2.2.1, hS.out.2.2.2.1, hS.out.2.2.2.2⟩
          case round =>
            clear hS
            rename Fr => s01
            obtain ⟨t, y, ht2, rfl, rfl, s, hS⟩ := hrel
            have hy39 : y ≤ 60 := by have := hS.out.1; omega
            by_cases ht : t < 2
            · have ht' : (t : Int) < 2 := by omega
              obtain ⟨e0, hs2⟩ := step2 hT.out.1 (by omega) hS.out.2.2.1
              rw [show (2 * i + t) % 2 = t by omega, ← hS.out.1] at e0 hs2
              have kA := hS.out.2.2.2.1.add hS.out.2.1 (by omega) (t : Int) (y : Int) 10
              rw [e0] at kA
              have kX : ∀ W, FrIn w.heap.size w W f (addS s (t : Int) (y : Int) 10) → Off w.heap.size TF wr W → ∃ W3, (Instr.mapUpdate 41 (.map (some G.heap.size)) (.int .i64 (y : Int)) (.int .i64 (t : Int))).run Try.prog W = .ok () W3 ∧ Hid (y + 1 = b + (2 * i + (t + 1)) ∧ FrOk b (addS s (t : Int) (y : Int) 10) ∧ St2 (V : Int) T b (2 * i + (t + 1)) (addS s (t : Int) (y : Int) 10) ∧ FrIn w.heap.size w W3 f (addS s (t : Int) (y : Int) 10) ∧ MapI W3 G.heap.size (2 * i + (t + 1)) (fM b (2 * i + (t + 1)))) := by
                intro W h1 h2
                have hm := hS.out.2.2.2.2.off h2
                obtain ⟨W3, hr, hm3, ht3⟩ := hm.store (z := (y : Int)) (wf_i64 (by omega) (by omega)) (by unfold maxLen; omega) (t : Int)
                refine ⟨W3, hr, by have := hS.out.1; omega, hS.out.2.1.addS (wf_i64 (by omega) (by omega)), hs2, h1.turn hm hB.out ht3, ?_⟩
                have e := fM_succ b (2 * i + t)
                rw [show (2 * i + t) % 2 = t by omega, ← hS.out.1] at e
                rw [e] at hm3
                exact hm3
              clear e0 hs2 hS
              go_wp2_with (go_at_call 9; refine kA.mono ?_; rintro e W2 ⟨rfl, h1, h2⟩; obtain ⟨W3, hmu, HN⟩ := kX W2 h1 h2; clear h1 h2 kA kX)
              go_roundw
              case rel => exact ⟨t + 1, y + 1, by omega, by go_num, by go_num, _, HN⟩
              case measure => simp [intOf]; omega
            · have ht' : ¬ (t : Int) < 2 := by omega
              have hN : Hid (y = b + 2 * (i + 1) ∧ FrOk b s ∧ St2 (V : Int) T b (2 * (i + 1)) s ∧ FrIn w.heap.size w wr f s ∧ MapI wr G.heap.size (2 * (i + 1)) (fM b (2 * (i + 1)))) := by
                have e2 : 2 * i + t = 2 * (i + 1) := by omega
                have := hS
                rw [e2] at this
                exact this
              clear hS
              go_wp2
              go_roundw
              case rel => exact ⟨i + 1, y, by omega, by go_num, rfl, s, hN⟩
              case measure => simp [intOf]; omega
        · have hlt' : ¬ (i : Int) < (N : Int) := by omega
          have hS0 : Hid (FrOk b s ∧ St2 (V : Int) T b (2 * N) s ∧ FrIn w.heap.size w wr f s ∧ MapI wr G.heap.size (2 * N) (fM b (2 * N))) := by
            have e2 : i = N := by omega
            have := hS.out.2
            rw [e2] at this
            exact this
          clear hS
          go_wp2
          rename World => G4
          go_loopw [14, 15] (fun q x wr => ∃ (k : Nat) (d : Int), k ≤ 2 * N ∧ x = .int .i64 k ∧ q = .int .i64 d ∧ ∃ s, Hid (d = (pI b k : Int) - qI b k ∧ FrOk (b + k) s ∧ St3 (V : Int) T b N (pI b k) (qI b k) s ∧ FrIn w.heap.size w wr f s ∧ MapI wr G.heap.size (2 * N) (fM b (2 * N)))) (fun _ x _ => 2 * N - (intOf x).toNat)
          case atStart =>
            have p0 : pI b 0 = 0 := by unfold pI; split <;> rfl
            have q0 : qI b 0 = 0 := by unfold qI; split <;> rfl
            exact ⟨0, 0, Nat.zero_le _, rfl, rfl, s, by rw [p0, q0]; rfl, hS0.out.1, by rw [p0, q0]; exact hS0.out.2.1.to3 v4.1, hS0.out.2.2.1, hS0.out.2.2.2⟩
          case round =>
            clear hS0 hlt hlt'
            rename Fr => s02
            obtain ⟨k, d, hk, rfl, rfl, s, hS⟩ := hrel
            have hk16 : k ≤ 16 := by omega
            have hd1 : -1 ≤ d ∧ d ≤ 1 := by rw [hS.out.1]; exact diff3 b k
            by_cases hlt : k < 2 * N
            · have hlt' : (k : Int) < 2 * (N : Int) := by omega
              obtain ⟨j, hj, hO, hs3, hdd⟩ := turn3 hT.out.1 hT.out.2 hlt hS.out.2.1 hS.out.2.2.1
              have hd2 := diff3 b (k + 1)
              rw [hdd, ← hS.out.1] at hd2
              rw [← hS.out.1] at hdd
              have kN := hS.out.2.2.2.1.next hS.out.2.1 (by omega)
              rw [hO] at kN
              dsimp only [nextV, itJ] at kN
              obtain ⟨u, eu⟩ : ∃ u : Nat, b + j = u := ⟨_, rfl⟩
              have kL : ∀ W, Off w.heap.size TF wr W → (Instr.lookup 41 (.map (some G.heap.size)) (.int .i64 (u : Int)) false).run Try.prog W = .ok (.int .i64 ((j % 2 : Nat) : Int)) W ∧ MapI W G.heap.size (2 * N) (fM b (2 * N)) := fun W h2 => by
                have hm := hS.out.2.2.2.2.off h2
                have := hm.look (z := (u : Int)) (wf_i64 (by omega) (by omega))
                rw [← eu, fM_at b (2 * N) j hj] at this
                rw [← eu]
                exact ⟨this, hm⟩
              rw [eu] at kN
              have hkS : FrOk (b + (k + 1)) (nextS s) := hS.out.2.1.nextS
              rcases (show j % 2 = 0 ∨ j % 2 = 1 by omega) with hj2 | hj2
              · rw [hj2] at kL hd2 hdd
                rw [if_pos rfl] at hd2 hdd
                have HN := hidden_ (And.intro hdd.symm (And.intro hkS hs3))
                obtain ⟨D, eD⟩ : ∃ D : Int, d + 1 = D := ⟨_, rfl⟩
                rw [eD] at hd2
                have hD1 : ¬ (2 : Int) < D := by omega
                have hD2 : ¬ D < -2 := by omega
                clear hO hs3 hdd hkS hS
                go_wp2_with (go_at_call 11; refine kN.mono ?_; rintro e W2 ⟨rfl, h1, h2⟩; obtain ⟨hl, hm⟩ := kL W2 h2; have HM := hidden_ (And.intro h1 hm); clear h1 h2 hm kN kL)
                go_roundw
                case rel => exact ⟨k + 1, D, by omega, by go_num, by first | rfl | (rw [← eD]; go_num), _, by rw [← eD]; exact HN.out.1, HN.out.2.1, HN.out.2.2, HM.out.1, HM.out.2⟩
                case measure => simp [intOf]; omega
              · rw [hj2] at kL hd2 hdd
                rw [if_neg (by decide)] at hd2 hdd
                have HN := hidden_ (And.intro hdd.symm (And.intro hkS hs3))
                obtain ⟨D, eD⟩ : ∃ D : Int, d + -1 = D := ⟨_, rfl⟩
                rw [eD] at hd2
                have hD1 : ¬ (2 : Int) < D := by omega
                have hD2 : ¬ D < -2 := by omega
                clear hO hs3 hdd hkS hS
                go_wp2_with (go_at_call 11; refine kN.mono ?_; rintro e W2 ⟨rfl, h1, h2⟩; obtain ⟨hl, hm⟩ := kL W2 h2; have HM := hidden_ (And.intro h1 hm); clear h1 h2 hm kN kL)
                go_roundw
                case rel => exact ⟨k + 1, D, by omega, by go_num, by first | rfl | (rw [← eD]; go_num), _, by rw [← eD]; exact HN.out.1, HN.out.2.1, HN.out.2.2, HM.out.1, HM.out.2⟩
                case measure => simp [intOf]; omega
            · have hlt' : ¬ (k : Int) < 2 * (N : Int) := by omega
              have e2 : k = 2 * N := by omega
              have hd0 : d = 0 := by have := hS.out.1; rw [e2] at this; rw [this]; exact diff_end b N
              have hb := hidden_ hS.out.2.2.2.1.below
              subst hd0
              clear hS e2 hd1
              go_wp2
              go_ret
              exact ⟨rfl, hb.out⟩

theorem contract (H : Type) (enc : TypeId × Value → H) (W : World) (base : Nat) (args : Array Value) (ds gs : List (DataW H)) (before : List MemPlace)
    (hval0 : ∀ (j : Nat) t v, Try.f6.params[j]? = some t → args[j]? = some v → Value.okWide Try.prog W .any base t v)
    (hW : DataW.Whole enc Try.prog Try.f6.params.toList Rows.fairIdleSpec.vars false W args.toList ds gs before) :
    Calls Try.prog 6 args W fun e W' => ∃ v, e = .returned v ∧ Rows.fairIdleSpec.post enc Try.prog Try.f6 false true false false W args v W' := by
  have hval : ∀ (j : Nat) t v, Try.f6.params[j]? = some t → args[j]? = some v → Value.okWide Try.prog W .any base t v := hval0
  have hW' := hW
  obtain ⟨p, q, hA0, hV, rfl, hfz, hnd⟩ := hW
  have hA : DataW.TrodAll enc Try.prog W 0 (fun _ => true) true Try.f6.params.toList args.toList ds p := hA0
  rw [Try.params6] at hA hval
  obtain ⟨v0, vs0, d0, ds0, p0, q0, hargs, rfl, rfl, h0, r0⟩ := trodAll_cons hA
  obtain ⟨v1, vs1, d1, ds1, p1, q1, rfl, rfl, rfl, h1, r1⟩ := trodAll_cons r0
  obtain ⟨v2, vs2, d2, ds2, p2, q2, rfl, rfl, rfl, h2, r2⟩ := trodAll_cons r1
  obtain ⟨rfl, rfl, rfl⟩ := trodAll_nil r2
  obtain rfl : args = #[v0, v1, v2] := by cases args; simp_all
  obtain ⟨rfl, rfl⟩ := trodVars_none hV
  obtain ⟨a0, rfl, rfl, rfl, w0⟩ := open_int Try.underlying3 (hval 0 3 v0 rfl rfl) h0
  obtain ⟨a1, rfl, rfl, rfl, w1⟩ := open_int Try.underlying3 (hval 1 3 v1 rfl rfl) h1
  obtain ⟨a2, rfl, rfl, rfl, w2⟩ := open_int Try.underlying3 (hval 2 3 v2 rfl rfl) h2
  clear hA0 hval0
  refine (walk a0 a1 a2 W w0 w1 w2).mono fun e W' ⟨he, bel⟩ => ?_
  subst he
  exact ⟨_, rfl, _, _, _, [], _, [], hW', trodAll_mk1 (shut_bool Try.underlying4 _), (trodAll_cons_mk (shut_int Try.underlying3 w0) (trodAll_cons_mk (shut_int Try.underlying3 w1) (trodAll_cons_mk (shut_int Try.underlying3 w2) trodAll_mk0))), rfl, bel.frame _, fun h => by cases h⟩

set_option maxRecDepth 100000 in
theorem lifted (os : Os) (started : os.Started) (H : Type) (enc : TypeId × Value → H) :
    ReturnsInHanded {} Try.checked os 6 .any (Rows.fairIdleSpec.pre6 enc Try.prog Try.f6 Rows.fairIdleRow.domain false) (Rows.fairIdleSpec.post enc Try.prog Try.f6 false true false false) := by
  refine returnsInHanded_of_change (C := Try.checked) own started (by kernel_rfl) Try.func6
    (ChangeSpec.witness6 (enc := enc) (C := Try.checked) false ⟨#[], #[.int .i64 0, .int .i64 0, .int .i64 0], []⟩ 8 (by kernel_rfl) (by kernel_rfl) (by kernel_rfl) (by kernel_rfl)) ?_
  intro W base args ds gs before hval hW _ _
  exact contract H enc W base args ds gs before hval hW

theorem over : Rows.fairIdleRow.holds Try.pinned (OpenSpec.ofChange Rows.fairIdleSpec) :=
  OpenClaim.holds_of_wide 6 Try.f6 rfl rfl rfl rfl rfl rfl rfl ⟨rfl, rfl, rfl, rfl, rfl⟩ rfl rfl rfl rfl rfl (by kernel_rfl) Try.func6 (by kernel_rfl)
    (of_decide_eq_true (by kernel_rfl)) (by unfold Func.isWrapper; first | (rw [if_pos (by decide +kernel)]; kernel_rfl) | (rw [if_neg (by decide +kernel)]; exact ⟨rfl, rfl⟩))
    (fun os started H enc _ => lifted os started H enc)

theorem proved : Rows.FairIdleSaid :=
  over
#print axioms proved
end Go.Proofs.Ytkjmlbllpnehlaa.fairIdle
