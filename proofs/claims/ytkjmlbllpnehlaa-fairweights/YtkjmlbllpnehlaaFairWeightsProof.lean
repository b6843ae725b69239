/- By weight: what was served of any two tenants, by their weights, stays within the bound, at 60c58327. -/
import Derived.Test.YtkjmlbllpnehlaaRows
import Derived.Test.YtkjmlbllpnehlaaView
import Derived.Test.YtkjmlbllpnehlaaOwn
import Derived.Test.YtkjmlbllpnehlaaSteps
import Derived.Test.YtkjmlbllpnehlaaBase
import Derived.Test.YtkjmlbllpnehlaaFkZ
import Derived.Test.YtkjmlbllpnehlaaFkBy
import Derived.Test.YtkjmlbllpnehlaaFkAt
import Derived.Test.YtkjmlbllpnehlaaFkNew
import Derived.Test.YtkjmlbllpnehlaaFkNext
import Derived.Test.YtkjmlbllpnehlaaFkWorks
import Derived.Test.YtkjmlbllpnehlaaMapI
import Derived.Test.YtkjmlbllpnehlaaTurned
import Derived.Test.YtkjmlbllpnehlaaPriceAt
import Derived.Test.YtkjmlbllpnehlaaWtZ
import Derived.Test.YtkjmlbllpnehlaaWtAt
import Derived.WalkKit
import Derived.ProofKit
import Derived.OpenShut
import Derived.ChangeOld
import Derived.Below
import Derived.WalkLawsBesides
import Derived.ChangeMaps5
import Derived.Deep.RegionHeld3
import Derived.Deep.Cut
import Derived.OwnWalk
import Derived.Maps.OwnSet
import Derived.Maps.OwnOps
import Derived.Lib.MinMax
import Derived.SizedLaws
namespace Go.Proofs.Ytkjmlbllpnehlaa.fairWeights
open Go.ChangeShapes Go.WideShapes Go.ChangeAt Go.RowKit
set_option linter.unusedVariables false
set_option linter.unusedSimpArgs false

theorem own : ownKnob Try.prog.godebug = none := by kernel_rfl
theorem laidOut : laidOutB Try.prog = true := by kernel_rfl
theorem bytes3 : Try.prog.bytesOf 3 = 8 := by kernel_rfl

theorem ok_len {zs : List Int} (h : okW zs = true) : 1 ≤ zs.length ∧ zs.length ≤ 4 := by
  simp only [okW, Bool.and_eq_true, decide_eq_true_eq] at h
  exact h.1


set_option maxHeartbeats 4000000 in
set_option maxRecDepth 20000 in
theorem walk (a0 : Option Addr) (n0 c0 : Nat) (z0 : List Int) (a1 : Option Addr) (n1 c1 : Nat) (z1 : List Int) (a2 : Int) (w : World) (w0 : Reads .i64 w a0 n0 z0) (e0 : a0 = none → c0 = 0) (l0 : n0 ≤ c0) (w1 : Reads .i64 w a1 n1 z1) (e1 : a1 = none → c1 = 0) (l1 : n1 ≤ c1) (w2 : (Lit.int .i64 a2).wf = true) (b0 : n0 * 8 ≤ 140737488351232) (b1 : n1 * 8 ≤ 140737488351232) :
    Calls Try.prog 4 #[.slice a0 n0 c0, .slice a1 n1 c1, .int .i64 a2] w fun e w' => e = .returned (.bool true) ∧ Below w.heap.size w w' := by
  have hm1 := w1.max
  have hm0 := w0.max
  obtain ⟨i0, hi, hz0, hz1, hz2⟩ := info3s
  have kW := works_call w
  cases hok : okW z0 with
  | false =>
    have kp := fun W a c (h : Reads .i64 W a n0 z0) => new_no h (c := c) hok
    clear hok w1
    go_enter Try.func4, Try.ntmps4
    go_wp2_with (first
      | (go_at_call 19; refine kW.mono ?_; rintro e W0 ⟨rfl, hb0⟩; have w0' := w0.below hb0; have HB0 := hidden_ hb0; clear kW hb0)
      | (at_builtin; refine wpList_copy rfl (.tmp 30) (.tmp 31) 22 rfl W0.heap.size 3 i0 (.int .i64 0) 8 Try.underlying22 hi hz0 hz1 hz2 rfl _ 0 [] rfl (World.ownsRow_lit _ #[] 0 (Nat.le_refl _) (by decide) rfl) .i64 a0 n0 c0 z0 rfl (w0'.below (below_new (Below.refl _ _) _)) e0 (by unfold maxLen; omega) (by omega) (below_new (Below.refl _ _) _).size ?_; intro v1 W1 ho1 hg1; obtain ⟨p1, q1, rfl, r1, hb1, -, cp1⟩ := copied (Below.refl W0.heap.size W0) _ ho1 hg1 w0'; have k7 := kp W1 p1 q1 r1; have HB := hidden_ (below_then HB0.out hb1); clear ho1 hg1 kp)
      | (go_at_call 7; refine k7.mono ?_; rintro e W2 ⟨rfl, h2⟩; obtain rfl := h2.symm; clear k7))
    go_ret
    exact ⟨rfl, HB.out⟩
  | true =>
    have kp := fun W a c (h : Reads .i64 W a n0 z0) => new_yes h (c := c) hok
    have kc := fun W (h : Reads .i64 W a1 n1 z1) => price_call h (c := c1)
    have hlen : 1 ≤ n0 ∧ n0 ≤ 4 := by have := ok_len hok; rw [w0.len] at this; exact this
    have hmk := fun W => madeI n0 (by omega) W
    have HO := hidden_ w0
    have HL := hidden_ w0.len
    have HK := hidden_ hok
    have hOk := hidden_ (newF_ok hok)
    obtain ⟨R, hR, r1, r2⟩ := restN a2 150 (by decide)
    replace r1 := show (IntKind.u64.wrap a2).tmod 150 = (R : Int) from r1
    replace r2 := show IntKind.u64.wrap a2 % 150 = (R : Int) from r2
    clear hok
    go_enter Try.func4, Try.ntmps4
    go_wp2_with (first
      | (go_at_call 19; refine kW.mono ?_; rintro e W0 ⟨rfl, hb0⟩; have w0' := w0.below hb0; have HB0 := hidden_ hb0; clear kW hb0 w0)
      | (at_builtin; refine wpList_copy rfl (.tmp 30) (.tmp 31) 22 rfl W0.heap.size 3 i0 (.int .i64 0) 8 Try.underlying22 hi hz0 hz1 hz2 rfl _ 0 [] rfl (World.ownsRow_lit _ #[] 0 (Nat.le_refl _) (by decide) rfl) .i64 a0 n0 c0 z0 rfl (w0'.below (below_new (Below.refl _ _) _)) e0 (by unfold maxLen; omega) (by omega) (below_new (Below.refl _ _) _).size ?_; intro v1 W1 ho1 hg1; obtain ⟨p1, q1, rfl, rr1, hb1, -, cp1⟩ := copied (Below.refl W0.heap.size W0) _ ho1 hg1 w0'; have k7 := kp W1 p1 q1 rr1; have HB := hidden_ (below_then HB0.out hb1); clear ho1 hg1 kp w0' HB0)
      | (go_at_call 7; refine k7.mono ?_; rintro e W2 ⟨f, rfl, h2, h3⟩; have hb2 := below_then HB.out h3; have HP : Hid (FrIn w.heap.size w W2 f (newF z0)) := ⟨h2 _ HB.out.size, hb2⟩; have k20 := kc (W2.alloc (.cells (madeCells [Value.int .i64 0].toArray n0) 3)) (w1.below (below_then hb2 (below_new (Below.refl W2.heap.size W2) _))); clear k7 h2 h3 hb2 kc w1)
      | (go_at_call 20; refine k20.mono ?_; rintro e W3 ⟨p, l, cp, ps, rfl, h1, h2, l1, l2⟩; go_loud (have hS0 : Hid (Wt w.heap.size w W3 f W2.heap.size (List.replicate n0 0) p l cp ps (newF z0) ∧ okC ps) := ⟨⟨HP.out.more (below_then (below_new (Below.refl W2.heap.size W2) _) h2), (srv_made W2 n0 _ HP.out.below.size).below h2, h1.out.1.mono (by simp)⟩, h1.out.2⟩); clear k20 h1 h2))
    clear HB HP rr1 hb1 cp1 hmk
    obtain ⟨x, rfl⟩ : ∃ x, p = some x := hS0.out.1.c.reads.some_ (by omega)
    obtain ⟨y0, rfl⟩ := HO.out.some_ (by omega)
    have HC := hidden_ hS0.out.2
    obtain ⟨g, eg⟩ : ∃ g, W2.heap.size = g := ⟨_, rfl⟩
    rw [eg] at hS0 ⊢
    clear eg
    obtain ⟨X, eX⟩ : ∃ X : Addr, X = ⟨g, 0, none⟩ := ⟨_, rfl⟩
    rw [← eX]
    have HX := hidden_ eX
    clear eX
    have hl0 : ¬ (l : Int) = 0 := by omega
    have hl0' : ¬ l = 0 := by omega
    go_loopw [9, 10, 13] (fun q y i wr => ∃ t m : Nat, t ≤ n0 ∧ i = .int .i64 t ∧ q = .int .i64 m ∧ ∃ T : Int, y = .int .i64 T ∧ ∃ s, Hid (m = 2 * t ∧ 1 ≤ T ∧ T ≤ 10000 ∧ FrOk 0 s ∧ Wl z0 T m s ∧ Wt w.heap.size w wr f g (List.replicate n0 0) (some x) l cp ps s)) (fun _ _ i _ => n0 - (intOf i).toNat)
    case atStart => exact ⟨0, 0, Nat.zero_le _, rfl, rfl, 1, rfl, _, rfl, by omega, by omega, hOk.out, Wl.start z0, hS0.out.1⟩
    case round =>
      clear hS0 hOk
      obtain ⟨t, m, ht, rfl, rfl, T, rfl, s, hS⟩ := hrel
      by_cases hlt : t < n0
      · have hlt' : (t : Int) < (n0 : Int) := by omega
        go_wp2
        go_loopw [9, 10, 14] (fun q y i wr => ∃ k m : Nat, k ≤ 2 ∧ i = .int .i64 k ∧ q = .int .i64 m ∧ ∃ T : Int, y = .int .i64 T ∧ ∃ s, Hid (m = 2 * t + k ∧ 1 ≤ T ∧ T ≤ 10000 ∧ FrOk 0 s ∧ Wl z0 T m s ∧ Wt w.heap.size w wr f g (List.replicate n0 0) (some x) l cp ps s)) (fun _ _ i _ => 2 - (intOf i).toNat)
        case atStart => exact ⟨0, m, by omega, rfl, rfl, T, rfl, s, hS.out.1, hS.out.2⟩
        case round =>
          clear hS
          rename Fr => s0
          obtain ⟨k, m, hk, rfl, rfl, T, rfl, s, hS⟩ := hrel
          by_cases hk2 : k < 2
          · have hk2' : (k : Int) < 2 := by omega
            have hmt : m / 2 = t := by have := hS.out.1; omega
            have hm8 : m ≤ 8 := by have := hS.out.1; omega
            obtain ⟨r, hr, d1, d2⟩ := rest_of m l l1
            have hr' : (r : Int) < (l : Int) := by omega
            obtain ⟨u, cu, u1, u2⟩ := hS.out.2.2.2.2.2.cost HC.out hr
            obtain ⟨P, eP⟩ : ∃ P, x.add r = P := ⟨_, rfl⟩
            rw [eP] at cu
            obtain ⟨f0, hl⟩ := hS.out.2.2.2.2.1.step (by rw [HL.out, hmt]; exact hlt) u1 u2
            rw [hmt] at f0 hl
            have kA := hS.out.2.2.2.2.2.q.add hS.out.2.2.2.1 (by omega) (t : Int) (m : Int) u
            rw [f0] at kA
            have HN : Hid (m + 1 = 2 * t + (k + 1) ∧ 1 ≤ max T u ∧ max T u ≤ 10000 ∧ FrOk 0 (addS s (t : Int) (m : Int) u) ∧ Wl z0 (max T u) (m + 1) (addS s (t : Int) (m : Int) u)) := ⟨by have := hS.out.1; omega, by omega, by have := hS.out.2.2.1; omega, hS.out.2.2.2.1.addS (wf_i64 (by omega) (by omega)), hl⟩
            have kX := fun W h1 h2 => hS.out.2.2.2.2.2.off (w' := W) (s' := addS s (t : Int) (m : Int) u) h1 h2
            clear f0 hl hS hmt
            go_wp2_with (go_at_call 9; refine kA.mono ?_; rintro e W4 ⟨rfl, h1, h2⟩; have HX2 := hidden_ (kX W4 h1 h2); clear kA kX h1 h2)
            go_roundw
            case rel => exact ⟨k + 1, m + 1, by omega, by go_num, by go_num, _, rfl, _, HN.out.1, HN.out.2.1, HN.out.2.2.1, HN.out.2.2.2.1, HN.out.2.2.2.2, HX2.out⟩
            case measure => simp [intOf]; omega
          · have hk2' : ¬ (k : Int) < 2 := by omega
            have hN := hidden_ (show m = 2 * (t + 1) by have := hS.out.1; omega)
            go_wp2
            go_roundw
            case rel => exact ⟨t + 1, m, by omega, by go_num, rfl, T, rfl, s, hN.out, hS.out.2⟩
            case measure => simp [intOf]; omega
      · have hlt' : ¬ (t : Int) < (n0 : Int) := by omega
        have hmk := @run_makeMap Try.prog
        go_wp2
        have hb1 := below_new (Below.refl wr.heap.size wr) (.map #[] 0)
        have hM0 : Hid (MapI (wr.alloc (.map #[] 0)) wr.heap.size 0 (fH 0) ∧ Wt w.heap.size w (wr.alloc (.map #[] 0)) f g (List.replicate n0 0) (some x) l cp ps s) := ⟨by rw [fH_zero]; exact MapI.made wr, hS.out.2.2.2.2.2.below hb1⟩
        have hB := hidden_ hS.out.2.2.2.2.2.le
        have ht0 : t = n0 := by omega
        have hm8 : m ≤ 8 := by have := hS.out.1; omega
        have hZ : Hid (m = 2 * z0.length ∧ 1 ≤ T ∧ T ≤ 10000 ∧ FrOk 0 s ∧ Wl z0 T m s) := ⟨by rw [HL.out, ← ht0]; exact hS.out.1, hS.out.2.1, hS.out.2.2.1, hS.out.2.2.2.1, hS.out.2.2.2.2.1⟩
        clear hb1 hS hlt hlt' ht0 ht
        rename World => M5
        go_loopw [17] (fun i wr => ∃ k : Nat, k ≤ m ∧ i = .int .i64 k ∧ Hid (MapI wr M5.heap.size k (fH k) ∧ Wt w.heap.size w wr f g (List.replicate n0 0) (some x) l cp ps s)) (fun i _ => m - (intOf i).toNat)
        case atStart => exact ⟨0, Nat.zero_le _, rfl, hM0⟩
        case round =>
          clear hM0 hmk
          obtain ⟨k, hk, rfl, hS⟩ := hrel
          by_cases hlt : k < m
          · have hlt' : (k : Int) < (m : Int) := by omega
            obtain ⟨h, eh⟩ : ∃ h : Nat, k / 2 = h := ⟨_, rfl⟩
            have v1 : (k : Int) / 2 = (h : Int) := by omega
            have v2 : (k : Int).tdiv 2 = (h : Int) := by rw [Int.tdiv_eq_ediv_of_nonneg (by omega)]; exact v1
            have v3 : h ≤ 8 := by omega
            obtain ⟨W6, hmu, hm6, ht6⟩ := hS.out.1.store (z := (k : Int)) (wf_i64 (by omega) (by omega)) (by unfold maxLen; omega) (h : Int)
            rw [← v1] at hmu
            have HN : Hid (MapI W6 M5.heap.size (k + 1) (fH (k + 1)) ∧ Wt w.heap.size w W6 f g (List.replicate n0 0) (some x) l cp ps s) := ⟨by rw [← fH_succ, eh]; exact hm6, hS.out.2.turn hS.out.1 hB.out ht6⟩
            clear hm6 ht6 hS eh v1 v2
            go_wp2
            go_roundw
            case rel => exact ⟨k + 1, by omega, by go_num, HN⟩
            case measure => simp [intOf]; omega
          · have hlt' : ¬ (k : Int) < (m : Int) := by omega
            have hq : Hid (Wz z0 T (fH m) (List.replicate n0 0) 0 m s ∧ MapI wr M5.heap.size m (fH m) ∧ Wt w.heap.size w wr f g (List.replicate n0 0) (some x) l cp ps s) := by
              have ek : k = m := by omega
              have e := hZ.out.2.2.2.2
              have em := hZ.out.1
              rw [em] at e ⊢
              rw [ek] at hS
              rw [← HL.out]
              have e2 := e.toz HK.out hZ.out.2.1
              rw [HL.out] at e2 ⊢
              have h1 := hS.out
              rw [em, HL.out] at h1
              exact ⟨e2, h1⟩
            have hq2 := hidden_ (And.intro hZ.out.2.1 (And.intro hZ.out.2.2.1 hZ.out.2.2.2.1))
            clear hS hlt hZ hk
            go_wp2
            go_loopw [9, 10, 18] (fun q y i wr => ∃ i' m' : Nat, i' ≤ R ∧ m' ≤ 8 + i' ∧ i = .int .i64 i' ∧ q = .int .i64 m' ∧ ∃ T : Int, y = .int .i64 T ∧ ∃ s fm sv, Hid (1 ≤ T ∧ T ≤ 10000 ∧ FrOk i' s ∧ Wz z0 T fm sv i' m' s ∧ MapI wr M5.heap.size m' fm ∧ Wt w.heap.size w wr f g sv (some x) l cp ps s)) (fun _ _ i _ => R - (intOf i).toNat)
            case atStart => exact ⟨0, m, Nat.zero_le _, by omega, rfl, rfl, T, rfl, s, _, _, hq2.out.1, hq2.out.2.1, hq2.out.2.2, hq.out.1, hq.out.2.1, hq.out.2.2⟩
            case round =>
              clear hq hq2 hm8
              rename Fr => s0
              rename Int => T0
              obtain ⟨i, m, hi', hm', rfl, rfl, T, rfl, s, fm, sv, hS⟩ := hrel
              by_cases hlt : i < R
              · have hlt' : (i : Int) < (R : Int) := by omega
                obtain ⟨r, hr, d1, d2⟩ := rest_of m l l1
                have hr' : (r : Int) < (l : Int) := by omega
                have hl51 : (l : Int) ≤ 51 := by omega
                obtain ⟨u, cu, u1, u2⟩ := hS.out.2.2.2.2.2.cost HC.out hr
                have eu0 := hS.out.2.2.2.2.2.c.reads.cell x rfl r hr
                rw [cu] at eu0
                have eu : ps.getD r 0 = u := by
                  injection eu0 with e
                  injection e with _ e
                  exact e.symm
                obtain ⟨P, eP⟩ : ∃ P, x.add r = P := ⟨_, rfl⟩
                obtain ⟨XX, hX, x1, x2, x3, x4, x5, f0, hz⟩ := hS.out.2.2.2.1.step HK.out hS.out.1 hS.out.2.2.1 u1 u2
                obtain ⟨⟨xt, xi, xc⟩, eXX⟩ : ∃ y, XX = y := ⟨_, rfl⟩
                subst eXX
                dsimp only at x1 x2 x3 x4 x5 f0 hz
                have kN := hS.out.2.2.2.2.2.q.next hS.out.2.2.1 (by omega)
                rw [hX] at kN
                dsimp only [nextV] at kN
                have hlsv : xt < sv.length := by rw [hS.out.2.2.2.1.len]; exact x1
                have hV := hS.out.2.2.2.1.sv xt x1
                obtain ⟨V, eV⟩ : ∃ V, sv.getD xt 0 = V := ⟨_, rfl⟩
                rw [eV] at hV hz
                have hV0 : 0 ≤ V := hV.1
                have hV1 : V ≤ 1500000 := by have := hV.2.1; omega
                have hxt : xt < n0 := by rw [← HL.out]; exact x1
                have hxt1 : (xt : Int) < (n0 : Int) := by omega
                have hxt2 : ¬ (n0 : Int) ≤ (xt : Int) := by omega
                obtain ⟨P2, eP2⟩ : ∃ P2, X.add xt = P2 := ⟨_, rfl⟩
                have e2 : P2 = ⟨g, xt, none⟩ := by rw [← eP2, HX.out, add_zero_at]
                obtain ⟨F, eF⟩ : ∃ F : World → Prop, F = fun w' => 1 ≤ max T u ∧ max T u ≤ 10000 ∧ FrOk (i + 1) (addS (nextS s) (xt : Int) (m : Int) u) ∧ Wz z0 (max T u) (updI fm (m : Int) (xt : Int)) (sv.set xt (V + xc)) (i + 1) (m + 1) (addS (nextS s) (xt : Int) (m : Int) u) ∧ MapI w' M5.heap.size (m + 1) (updI fm (m : Int) (xt : Int)) ∧ Wt w.heap.size w w' f g (sv.set xt (V + xc)) (some x) l cp ps (addS (nextS s) (xt : Int) (m : Int) u) := ⟨_, rfl⟩
                have k1 : ∀ W, FrIn w.heap.size w W f (nextS s) → Off w.heap.size TF wr W →
                    W.cell? P2 = some (.int .i64 V) ∧ W.frozen? P2 = false ∧ (Instr.lookup 41 (.map (some M5.heap.size)) (.int .i64 xi) true).run Try.prog W = .ok (.tuple #[.int .i64 (xt : Int), .bool true]) W ∧
                    ∃ W6, (Instr.mapUpdate 41 (.map (some M5.heap.size)) (.int .i64 (m : Int)) (.int .i64 (xt : Int))).run Try.prog (W.setCell P2 (.int .i64 (V + xc))) = .ok () W6 ∧ W6.cell? P = some (.int .i64 u) ∧
                      Calls Try.prog 9 #[.pointer (some ⟨f, 0, none⟩), .int .i64 (xt : Int), .int .i64 (m : Int), .int .i64 u] W6 fun e w' => e = .returned (.int .i64 0) ∧ Hid (F w') := by
                  intro W h1 h2
                  have t1 := hS.out.2.2.2.2.2.off h1 h2
                  obtain ⟨t2, o3⟩ := t1.set hlsv (V + xc)
                  have m1 := hS.out.2.2.2.2.1.off h2
                  have m2 := m1.off o3
                  obtain ⟨W6, hmu, m3, ht⟩ := m2.store (z := (m : Int)) (wf_i64 (by omega) (by omega)) (by unfold maxLen; omega) (xt : Int)
                  have t3 := t2.turn m2 hB.out ht
                  have c1 := t1.r.at_ xt hlsv
                  rw [eV] at c1
                  have hl2 := m1.look2 (z := xi) x4
                  rw [x5] at hl2
                  have cP := t3.c.reads.cell x rfl r hr
                  rw [eu, eP] at cP
                  obtain ⟨mm, rr⟩ := t1.r.row
                  rw [e2]
                  refine ⟨c1, rr.open_ xt, hl2, W6, hmu, cP, ?_⟩
                  have kA := t3.q.add hS.out.2.2.1.nextS (by omega) (xt : Int) (m : Int) u
                  rw [f0] at kA
                  refine kA.mono ?_
                  rintro e w' ⟨rfl, h5, h6⟩
                  refine ⟨rfl, ?_⟩
                  rw [eF]
                  exact ⟨by omega, by have := hS.out.2.1; omega, hS.out.2.2.1.nextS.addS (wf_i64 (by omega) (by omega)), hz, m3.off h6, t3.off h5 h6⟩
                have HF := hidden_ eF
                have HB2 := hidden_ (fun w' (h : F w') => show Wz z0 (max T u) (updI fm (m : Int) (xt : Int)) (sv.set xt (V + xc)) (i + 1) (m + 1) (addS (nextS s) (xt : Int) (m : Int) u) ∧ 1 ≤ max T u ∧ max T u ≤ 10000 by rw [eF] at h; exact ⟨h.2.2.2.1, h.1, h.2.1⟩)
                clear eF hz hV eV hlsv e2 eu eu0 cu f0 x1 x4 x5 hX hS
                go_wp2_with (first
                  | (go_at_call 11; refine kN.mono ?_; rintro e W4 ⟨rfl, h1, h2⟩; obtain ⟨b1, b2, b3, W6, b4, b5, k9⟩ := k1 W4 h1 h2; clear h1 h2 kN k1)
                  | (go_at_call 9; refine k9.mono ?_; rintro e W7 ⟨rfl, hW7⟩; clear k9 b1 b2 b3 b4 b5))
                obtain ⟨U, eU⟩ : ∃ U, max T u = U := ⟨_, rfl⟩
                rw [eU]
                obtain ⟨sv', fm', s', hQ⟩ : ∃ sv' fm' s', Hid (1 ≤ U ∧ U ≤ 10000 ∧ FrOk (i + 1) s' ∧ Wz z0 U fm' sv' (i + 1) (m + 1) s' ∧ MapI W7 M5.heap.size (m + 1) fm' ∧ Wt w.heap.size w W7 f g sv' (some x) l cp ps s') := ⟨_, _, _, by have h := hW7.out; rw [HF.out] at h; rw [eU] at h; exact h⟩
                have hU1 : 1 ≤ U := hQ.out.1
                have hU2 : U ≤ 10000 := hQ.out.2.1
                clear HF HB2 hW7 hV0 hV1 hxt1 hxt2 u1 u2 x2 x3 d1 d2 hr' hr eP eP2 eU
                go_loopw [25] (fun q wr => ∃ a : Nat, a ≤ n0 ∧ q = .int .i64 a ∧ Hid (Below W7.heap.size W7 wr)) (fun q _ => n0 - (intOf q).toNat)
                case atStart => exact ⟨0, Nat.zero_le _, rfl, hidden_ (Below.refl _ _)⟩
                case round =>
                  obtain ⟨a, ha, rfl, hW⟩ := hrel
                  by_cases hla : a < n0
                  · have hla' : (a : Int) < (n0 : Int) := by omega
                    go_wp2
                    go_loopw [26] (fun q wr => ∃ b : Nat, b ≤ n0 ∧ q = .int .i64 b ∧ Hid (Below W7.heap.size W7 wr)) (fun q _ => n0 - (intOf q).toNat)
                    case atStart => exact ⟨0, Nat.zero_le _, rfl, hW⟩
                    case round =>
                      clear hW
                      obtain ⟨b, hb, rfl, hW⟩ := hrel
                      by_cases hlb : b < n0
                      · have hlb' : (b : Int) < (n0 : Int) := by omega
                        have hr3 := hQ.out.2.2.2.2.2.below hW.out
                        have hsl : sv'.length = n0 := by rw [hQ.out.2.2.2.1.len]; exact HL.out
                        have ca := hr3.r.at_ a (by omega)
                        have cb := hr3.r.at_ b (by omega)
                        rw [← add_zero_at g a, ← HX.out] at ca
                        rw [← add_zero_at g b, ← HX.out] at cb
                        have hwr := HO.out.below hr3.q.below
                        have da := hwr.cell y0 rfl a hla
                        have db := hwr.cell y0 rfl b hlb
                        have hza : a < z0.length := by rw [HL.out]; exact hla
                        have hzb : b < z0.length := by rw [HL.out]; exact hlb
                        have wa := weight_ok HK.out hza
                        have wb := weight_ok HK.out hzb
                        obtain ⟨sa0, sa1, -⟩ := hQ.out.2.2.2.1.sv a hza
                        obtain ⟨sb0, sb1, -⟩ := hQ.out.2.2.2.1.sv b hzb
                        have law := hQ.out.2.2.2.1.law HK.out hU1 hza hzb (d := min (z0.getD a 0) (z0.getD b 0)) (by omega) (by omega)
                        obtain ⟨Sa, eSa⟩ : ∃ z, sv'.getD a 0 = z := ⟨_, rfl⟩
                        obtain ⟨Sb, eSb⟩ : ∃ z, sv'.getD b 0 = z := ⟨_, rfl⟩
                        obtain ⟨Wa, eWa⟩ : ∃ z, z0.getD a 0 = z := ⟨_, rfl⟩
                        obtain ⟨Wb, eWb⟩ : ∃ z, z0.getD b 0 = z := ⟨_, rfl⟩
                        rw [eSa] at ca sa0 sa1 law
                        rw [eSb] at cb sb0 sb1 law
                        rw [eWa] at da wa law
                        rw [eWb] at db wb law
                        obtain ⟨Pa, ePa⟩ : ∃ P, X.add a = P := ⟨_, rfl⟩
                        obtain ⟨Pb, ePb⟩ : ∃ P, X.add b = P := ⟨_, rfl⟩
                        obtain ⟨Qa, eQa⟩ : ∃ P, y0.add a = P := ⟨_, rfl⟩
                        obtain ⟨Qb, eQb⟩ : ∃ P, y0.add b = P := ⟨_, rfl⟩
                        rw [ePa] at ca
                        rw [ePb] at cb
                        rw [eQa] at da
                        rw [eQb] at db
                        have sa2 : Sa ≤ 1500000 := by omega
                        have sb2 : Sb ≤ 1500000 := by omega
                        have n1 := small_mul sa0 sa2 wb.1 wb.2
                        have n2 := small_mul sb0 sb2 wa.1 wa.2
                        have n5 := small_mul (show 0 ≤ 2 * U by omega) (show 2 * U ≤ 20000 by omega) wa.1 wa.2
                        have n6 := small_mul n5.1 (show 2 * U * Wa ≤ 320000 by omega) wb.1 wb.2
                        obtain ⟨d, ed⟩ : ∃ d, min Wa Wb = d := ⟨_, rfl⟩
                        rw [ed] at law
                        have hd : 1 ≤ d ∧ d ≤ 16 := by omega
                        have n3 := small_mul n1.1 (show Sa * Wb ≤ 24000000 by omega) hd.1 hd.2
                        have n4 := small_mul n2.1 (show Sb * Wa ≤ 24000000 by omega) hd.1 hd.2
                        have n7 : (Sa * Wb - Sb * Wa) * d = Sa * Wb * d - Sb * Wa * d := Int.sub_mul _ _ _
                        have n8 : -384000000 ≤ (Sa * Wb - Sb * Wa) * d ∧ (Sa * Wb - Sb * Wa) * d ≤ 384000000 := by omega
                        have law' : ¬ 2 * U * Wa * Wb < (Sa * Wb - Sb * Wa) * d := by omega
                        obtain ⟨A1, eA1⟩ : ∃ z, Sa * Wb = z := ⟨_, rfl⟩
                        obtain ⟨B1, eB1⟩ : ∃ z, Sb * Wa = z := ⟨_, rfl⟩
                        rw [eA1, eB1] at law' n8
                        rw [eA1] at n1
                        rw [eB1] at n2
                        obtain ⟨E1, eE1⟩ : ∃ z, (A1 - B1) * d = z := ⟨_, rfl⟩
                        rw [eE1] at law' n8
                        obtain ⟨F1, eF1⟩ : ∃ z, 2 * U * Wa = z := ⟨_, rfl⟩
                        rw [eF1] at law' n5 n6
                        obtain ⟨F2, eF2⟩ : ∃ z, F1 * Wb = z := ⟨_, rfl⟩
                        rw [eF2] at law' n6
                        clear eSa eSb eWa eWb n3 n4 n7 sa1 sb1 law hwr hr3 hsl hza hzb sa0 sb0 sa2 sb2 hi' hm' r1 r2 l2 hR hlt hlt' hl51
                        go_upto_region 46 with fail
                        go_quiet (fail)
                        clear ca cb da db n1 n2 n5 n6 n8 wa wb hd eA1 eB1 eE1 eF1 eF2 ed
                        go_wp2
                        go_roundw
                        case rel => exact ⟨b + 1, by omega, by go_num, hidden_ (below_drew hW.out ⟨_, rfl⟩)⟩
                        case measure => simp [intOf]; omega
                      · have hlb' : ¬ (b : Int) < (n0 : Int) := by omega
                        go_wp2
                        go_roundw
                        case rel => exact ⟨a + 1, by omega, by go_num, hW⟩
                        case measure => simp [intOf]; omega
                  · have hla' : ¬ (a : Int) < (n0 : Int) := by omega
                    have hR2 : Hid (MapI wr M5.heap.size (m + 1) fm' ∧ Wt w.heap.size w wr f g sv' (some x) l cp ps s') := ⟨hQ.out.2.2.2.2.1.below hW.out, hQ.out.2.2.2.2.2.below hW.out⟩
                    go_wp2
                    go_roundw
                    case rel => exact ⟨i + 1, m + 1, by omega, by omega, by go_num, by go_num, U, rfl, s', fm', sv', hU1, hU2, hQ.out.2.2.1, hQ.out.2.2.2.1, hR2.out.1, hR2.out.2⟩
                    case measure => simp [intOf]; omega
              · have hlt' : ¬ (i : Int) < (R : Int) := by omega
                have hb := hidden_ hS.out.2.2.2.2.2.q.below
                clear hS
                go_wp2
                go_ret
                exact ⟨rfl, hb.out⟩

theorem contract (H : Type) (enc : TypeId × Value → H) (W : World) (base : Nat) (args : Array Value) (ds gs : List (DataW H)) (before : List MemPlace)
    (hval0 : ∀ (j : Nat) t v, Try.f4.params[j]? = some t → args[j]? = some v → Value.okWide Try.prog W .any base t v)
    (hW : DataW.Whole enc Try.prog Try.f4.params.toList Rows.fairWeightsSpec.vars false W args.toList ds gs before)
    (hsz0 : (DataW.weightsEach Try.prog (Try.f4.params.toList ++ Rows.fairWeightsSpec.plain.varTypes Try.prog) (ds ++ gs)).all (· ≤ reachBytes) = true) :
    Calls Try.prog 4 args W fun e W' => ∃ v, e = .returned v ∧ Rows.fairWeightsSpec.post enc Try.prog Try.f4 false true false false W args v W' := by
  have hval : ∀ (j : Nat) t v, Try.f4.params[j]? = some t → args[j]? = some v → Value.okWide Try.prog W .any base t v := hval0
  have hW' := hW
  obtain ⟨p, q, hA0, hV, rfl, hfz, hnd⟩ := hW
  have hA : DataW.TrodAll enc Try.prog W 0 (fun _ => true) true Try.f4.params.toList args.toList ds p := hA0
  have hsz : (DataW.weightsEach Try.prog (Try.f4.params.toList ++ Rows.fairWeightsSpec.plain.varTypes Try.prog) (ds ++ gs)).all (· ≤ reachBytes) = true := hsz0
  rw [Try.params4] at hA hval hsz
  obtain ⟨v0, vs0, d0, ds0, p0, q0, hargs, rfl, rfl, h0, r0⟩ := trodAll_cons hA
  obtain ⟨v1, vs1, d1, ds1, p1, q1, rfl, rfl, rfl, h1, r1⟩ := trodAll_cons r0
  obtain ⟨v2, vs2, d2, ds2, p2, q2, rfl, rfl, rfl, h2, r2⟩ := trodAll_cons r1
  obtain ⟨rfl, rfl, rfl⟩ := trodAll_nil r2
  obtain rfl : args = #[v0, v1, v2] := by cases args; simp_all
  obtain ⟨rfl, rfl⟩ := trodVars_none hV
  obtain ⟨a0, n0, c0, rfl⟩ := okWide_slice Try.underlying22 (hval 0 22 v0 rfl rfl)
  have k0 := h0
  have lt0 : ∀ x ∈ p0, x.block < W.heap.size := by obtain ⟨m, hm⟩ := k0; exact DataW.trod_lt m _ _ _ hm
  obtain ⟨z0, w0, e0, l0, s0⟩ : ∃ zs, Reads .i64 W a0 n0 zs ∧ (a0 = none → c0 = 0) ∧ n0 ≤ c0 ∧ (n0 = 0 ∨ ∃ el sp, d0 = .slice el sp ∧ n0 ≤ el.length + sp.length) := by
    obtain ⟨fuel, hf⟩ := h0
    rcases open_ints Try.underlying22 Try.underlying3 (by kernel_rfl) hf with ⟨hcs, hd⟩ | ⟨x, l, c, zs, hcs, _, hl, hm, hz, hd, hcell, hwz⟩
    · simp [Value.cells] at hcs
      obtain ⟨rfl, rfl, rfl⟩ := hcs
      exact ⟨[], Reads.nil _ _, fun _ => rfl, Nat.le_refl _, .inl rfl⟩
    · simp [Value.cells] at hcs
      obtain ⟨rfl, rfl, rfl⟩ := hcs
      exact ⟨_, Reads.of_open hl hm (by simpa using hz) hcell hwz, (fun h => by cases h), hl, .inr ⟨_, _, congrArg Prod.fst hd, open_length (by simpa using hz) hl⟩⟩
  obtain ⟨a1, n1, c1, rfl⟩ := okWide_slice Try.underlying22 (hval 1 22 v1 rfl rfl)
  have k1 := h1
  have lt1 : ∀ x ∈ p1, x.block < W.heap.size := by obtain ⟨m, hm⟩ := k1; exact DataW.trod_lt m _ _ _ hm
  obtain ⟨z1, w1, e1, l1, s1⟩ : ∃ zs, Reads .i64 W a1 n1 zs ∧ (a1 = none → c1 = 0) ∧ n1 ≤ c1 ∧ (n1 = 0 ∨ ∃ el sp, d1 = .slice el sp ∧ n1 ≤ el.length + sp.length) := by
    obtain ⟨fuel, hf⟩ := h1
    rcases open_ints Try.underlying22 Try.underlying3 (by kernel_rfl) hf with ⟨hcs, hd⟩ | ⟨x, l, c, zs, hcs, _, hl, hm, hz, hd, hcell, hwz⟩
    · simp [Value.cells] at hcs
      obtain ⟨rfl, rfl, rfl⟩ := hcs
      exact ⟨[], Reads.nil _ _, fun _ => rfl, Nat.le_refl _, .inl rfl⟩
    · simp [Value.cells] at hcs
      obtain ⟨rfl, rfl, rfl⟩ := hcs
      exact ⟨_, Reads.of_open hl hm (by simpa using hz) hcell hwz, (fun h => by cases h), hl, .inr ⟨_, _, congrArg Prod.fst hd, open_length (by simpa using hz) hl⟩⟩
  obtain ⟨a2, rfl, rfl, rfl, w2⟩ := open_int Try.underlying3 (hval 2 3 v2 rfl rfl) h2
  have b0 : n0 * 8 ≤ 140737488351232 := by
    rcases s0 with rfl | ⟨el, sp, rfl, hle⟩
    · decide
    · have := sized_slice hsz (j := 0) (t := 22) (e := 3) rfl rfl Try.underlying22
      rw [bytes3] at this
      simp only [reachBytes] at this
      omega
  have b1 : n1 * 8 ≤ 140737488351232 := by
    rcases s1 with rfl | ⟨el, sp, rfl, hle⟩
    · decide
    · have := sized_slice hsz (j := 1) (t := 22) (e := 3) rfl rfl Try.underlying22
      rw [bytes3] at this
      simp only [reachBytes] at this
      omega
  clear hA0 hval0
  refine (walk a0 n0 c0 z0 a1 n1 c1 z1 a2 W w0 e0 l0 w1 e1 l1 w2 b0 b1).mono fun e W' ⟨he, bel⟩ => ?_
  subst he
  exact ⟨_, rfl, _, _, _, [], _, [], hW', trodAll_mk1 (shut_bool Try.underlying4 _), (trodAll_cons_mk (Below.trod laidOut (by kernel_rfl) (of_decide_eq_true (by kernel_rfl)) k0 bel lt0) (trodAll_cons_mk (Below.trod laidOut (by kernel_rfl) (of_decide_eq_true (by kernel_rfl)) k1 bel lt1) (trodAll_cons_mk (shut_int Try.underlying3 w2) trodAll_mk0))), rfl, bel.frame _, fun h => by cases h⟩

set_option maxRecDepth 100000 in
theorem lifted (os : Os) (started : os.Started) (H : Type) (enc : TypeId × Value → H) :
    ReturnsInHanded {} Try.checked os 4 .any (Rows.fairWeightsSpec.pre6 enc Try.prog Try.f4 Rows.fairWeightsRow.domain false) (Rows.fairWeightsSpec.post enc Try.prog Try.f4 false true false false) := by
  refine returnsInHanded_of_change_sized (C := Try.checked) own started (by kernel_rfl) Try.func4
    (ChangeSpec.witness6 (enc := enc) (C := Try.checked) false ⟨#[], #[.slice none 0 0, .slice none 0 0, .int .i64 0], []⟩ 8 (by kernel_rfl) (by kernel_rfl) (by kernel_rfl) (by kernel_rfl)) ?_
  intro W base args ds gs before hval hW _ hsz _
  exact contract H enc W base args ds gs before hval hW hsz

theorem over : Rows.fairWeightsRow.holds Try.pinned (OpenSpec.ofChange Rows.fairWeightsSpec) :=
  OpenClaim.holds_of_wide 4 Try.f4 rfl rfl rfl rfl rfl rfl rfl ⟨rfl, rfl, rfl, rfl, rfl⟩ rfl rfl rfl rfl rfl (by kernel_rfl) Try.func4 (by kernel_rfl)
    (of_decide_eq_true (by kernel_rfl)) (by unfold Func.isWrapper; first | (rw [if_pos (by decide +kernel)]; kernel_rfl) | (rw [if_neg (by decide +kernel)]; exact ⟨rfl, rfl⟩))
    (fun os started H enc _ => lifted os started H enc)

theorem proved : Rows.FairWeightsSaid :=
  over
#print axioms proved
end Go.Proofs.Ytkjmlbllpnehlaa.fairWeights
