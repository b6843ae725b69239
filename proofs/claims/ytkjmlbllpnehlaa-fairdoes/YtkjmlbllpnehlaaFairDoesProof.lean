/- For every list of weights and every row of acts (its first two hundred): whatever is added, taken and cancelled, the program's answers, clocks and counts of what waits are those of the document's own tenants, for every tenant, one below and one above too. -/
import Derived.Test.YtkjmlbllpnehlaaRows
import Derived.Test.YtkjmlbllpnehlaaView
import Derived.Test.YtkjmlbllpnehlaaOwn
import Derived.Test.YtkjmlbllpnehlaaSteps
import Derived.Test.YtkjmlbllpnehlaaBase
import Derived.Test.YtkjmlbllpnehlaaOpenOps
import Derived.Test.YtkjmlbllpnehlaaFkZ
import Derived.Test.YtkjmlbllpnehlaaFkBy
import Derived.Test.YtkjmlbllpnehlaaFkAt
import Derived.Test.YtkjmlbllpnehlaaFkNew
import Derived.Test.YtkjmlbllpnehlaaFkNext
import Derived.Test.YtkjmlbllpnehlaaRfAt
import Derived.Test.YtkjmlbllpnehlaaRfNew
import Derived.Test.YtkjmlbllpnehlaaRfNewY
import Derived.Test.YtkjmlbllpnehlaaBt
import Derived.WalkKit
import Derived.ProofKit
import Derived.OpenShut
import Derived.ChangeOld
import Derived.Below
import Derived.WalkLawsBesides
import Derived.ChangeMaps5
import Derived.Deep.RegionHeld3
import Derived.Deep.Cut
import Derived.OwnWalk
import Derived.SizedLaws
namespace Go.Proofs.Ytkjmlbllpnehlaa.fairDoes
open Go.ChangeShapes Go.WideShapes Go.ChangeAt Go.RowKit
set_option linter.unusedVariables false
set_option linter.unusedSimpArgs false

theorem own : ownKnob Try.prog.godebug = none := by kernel_rfl
theorem laidOut : laidOutB Try.prog = true := by kernel_rfl
theorem bytes3 : Try.prog.bytesOf 3 = 8 := by kernel_rfl

theorem info_parts {b : TypeId} {z : Value} {s y : Nat} (h : (Try.prog.info? b).map (fun i => (i.zero, i.size, i.bytes)) = some (some z, s, y)) : ∃ i, Try.prog.info? b = some i ∧ i.zero = some z ∧ i.size = s ∧ i.bytes = y := by
  obtain ⟨i, hi, hz⟩ := Option.map_eq_some_iff.1 h
  simp only [Prod.mk.injEq] at hz
  exact ⟨i, hi, hz.1, hz.2.1, hz.2.2⟩


set_option maxHeartbeats 4000000 in
set_option maxRecDepth 20000 in
theorem walk (a0 : Option Addr) (n0 c0 : Nat) (z0 : List Int) (a1 : Option Addr) (n1 c1 : Nat) (O1 : Nat → OpV) (w : World) (w0 : Reads .i64 w a0 n0 z0) (e0 : a0 = none → c0 = 0) (l0 : n0 ≤ c0) (w1 : OpsAt w a1 n1 O1) (e1 : a1 = none → c1 = 0) (l1 : n1 ≤ c1) (b0 : n0 * 8 ≤ 140737488351232) :
    Calls Try.prog 3 #[.slice a0 n0 c0, .slice a1 n1 c1] w fun e w' => e = .returned (.bool true) ∧ Below w.heap.size w w' := by
  have hm1 := w1.max
  have hm0 := w0.max
  obtain ⟨i0, hi, hz0, hz1, hz2⟩ := info_parts info3
  cases hok : okW z0 with
  | false =>
    have kp := fun W a c (h : Reads .i64 W a n0 z0) => new_no h (c := c) hok
    have kr := fun W (h : Reads .i64 W a0 n0 z0) => rnew_no h (c := c0) hok
    have HR := hidden_ w0
    clear hok w1
    go_enter Try.func3, Try.ntmps3
    go_wp2_with (first
      | (at_builtin; refine wpList_copy rfl (.tmp 19) (.tmp 20) 22 rfl w.heap.size 3 i0 (.int .i64 0) 8 Try.underlying22 hi hz0 hz1 hz2 rfl _ 0 [] rfl (World.ownsRow_lit _ #[] 0 (Nat.le_refl _) (by decide) rfl) .i64 a0 n0 c0 z0 rfl (w0.below (below_new (Below.refl _ _) _)) e0 (by unfold maxLen; omega) (by omega) (below_new (Below.refl _ _) _).size ?_; intro v1 W1 ho1 hg1; obtain ⟨p1, q1, rfl, r1, hb1, -, cp1⟩ := copied (Below.refl w.heap.size w) _ ho1 hg1 w0; have k7 := kp W1 p1 q1 r1; have k8 := kr W1 (HR.out.below hb1); have HB := hidden_ hb1; clear ho1 hg1 kp kr)
      | (go_at_call 7; refine k7.mono ?_; rintro e W2 ⟨rfl, h2⟩; obtain rfl := h2.symm; clear k7)
      | (go_at_call 8; refine k8.mono ?_; rintro e W2 ⟨rfl, h2⟩; obtain rfl := h2.symm; clear k8))
    go_ret
    exact ⟨rfl, HB.out⟩
  | true =>
    have kp := fun W a c (h : Reads .i64 W a n0 z0) => new_yes h (c := c) hok
    have kr := fun W (h : Reads .i64 W a0 n0 z0) => rnew_yes h (c := c0) hok
    have HR := hidden_ w0
    have HO := hidden_ w1
    have hn4 : n0 ≤ 4 := by
      simp only [okW, Bool.and_eq_true, decide_eq_true_eq] at hok
      have := hok.1.2
      rw [w0.len] at this
      exact this
    have hOk := hidden_ (newF_ok hok)
    clear hok w1
    go_enter Try.func3, Try.ntmps3
    go_wp2_with (first
      | (at_builtin; refine wpList_copy rfl (.tmp 19) (.tmp 20) 22 rfl w.heap.size 3 i0 (.int .i64 0) 8 Try.underlying22 hi hz0 hz1 hz2 rfl _ 0 [] rfl (World.ownsRow_lit _ #[] 0 (Nat.le_refl _) (by decide) rfl) .i64 a0 n0 c0 z0 rfl (w0.below (below_new (Below.refl _ _) _)) e0 (by unfold maxLen; omega) (by omega) (below_new (Below.refl _ _) _).size ?_; intro v1 W1 ho1 hg1; obtain ⟨p1, q1, rfl, r1, hb1, -, cp1⟩ := copied (Below.refl w.heap.size w) _ ho1 hg1 w0; have k7 := kp W1 p1 q1 r1; have HB := hidden_ hb1; clear ho1 hg1 kp w0)
      | (go_at_call 7; refine k7.mono ?_; rintro e W2 ⟨f, rfl, h2, h3⟩; have hb2 := below_then HB.out h3; have k8 := kr W2 (HR.out.below hb2); have HP := hidden_ (And.intro (h2 _ HB.out.size) hb2); clear k7 kr h2 h3 hb2)
      | (go_at_call 8; refine k8.mono ?_; rintro e W3 ⟨F, rfl, h2, h3⟩; have hB0 : Hid (Bt w.heap.size w W3 f F (newF z0)) := ⟨by obtain ⟨g, A, hq⟩ := HP.out.1; exact ⟨g, A, hq.below h3⟩, by obtain ⟨q, hq⟩ := h2; exact ⟨q, hq.mono HP.out.2.size⟩, below_then HP.out.2 h3⟩; clear k8 h2 h3))
    clear HB HP
    go_loopw [9] (fun i wr => ∃ k : Nat, k ≤ n1 ∧ k ≤ 200 ∧ i = .int .i64 k ∧ ∃ s, FrOk k s ∧ s.L.length ≤ k ∧ Bt w.heap.size w wr f F s) (fun i _ => n1 - (intOf i).toNat)
    case atStart => exact ⟨0, Nat.zero_le _, Nat.zero_le _, rfl, _, hOk.out, Nat.le_refl _, hB0.out⟩
    case round =>
      clear hB0 hOk
      obtain ⟨k, hk, hk', rfl, s, hs, hlen, hB⟩ := hrel
      by_cases hlt : k < n1 ∧ k < 200
      · obtain ⟨y1, y2⟩ := hlt
        have y1' : (k : Int) < (n1 : Int) := by omega
        have y2' : (k : Int) < 200 := by omega
        obtain ⟨x, rfl⟩ := HO.out.some_ (by omega)
        have hwf := HO.out.wf k y1
        obtain ⟨d0, d1, d2, d3⟩ := (HO.out.below (by have := hB.b; exact this)).cell x rfl k y1
        obtain ⟨P, eP⟩ : ∃ P, x.add (k * 4) = P := ⟨_, rfl⟩
        rw [eP] at d0 d1 d2 d3
        have d1' : wr.cell? ⟨P.block, P.off + 1, none⟩ = some (.int .i64 (O1 k).t) := d1
        have d2' : wr.cell? ⟨P.block, P.off + 2, none⟩ = some (.int .i64 (O1 k).i) := d2
        have d3' : wr.cell? ⟨P.block, P.off + 3, none⟩ = some (.int .i64 (O1 k).c) := d3
        clear d1 d2 d3
        obtain ⟨⟨ok, ot, oi, oc⟩, eo⟩ : ∃ o, O1 k = o := ⟨_, rfl⟩
        rw [eo] at d0 d1' d2' d3' hwf
        dsimp only at d0 d1' d2' d3' hwf
        clear eo
        have hA := below_new (Below.refl wr.heap.size wr) (.cells #[.int .i64 ok, .int .i64 ot, .int .i64 oi, .int .i64 oc] 32)
        have hq := hidden_ (And.intro (hB.below hA) (BoxAt.new wr ok ot oi oc))
        clear hA hB
        obtain ⟨E, eE⟩ : ∃ E, wr.heap.size = E := ⟨_, rfl⟩
        obtain ⟨A, eA⟩ : ∃ A, wr.alloc (.cells #[.int .i64 ok, .int .i64 ot, .int .i64 oi, .int .i64 oc] 32) = A := ⟨_, rfl⟩
        rw [eA, eE] at hq
        have EA := hidden_ (And.intro eA eE)
        have g0 := hq.out.2.c0
        dsimp only at g0
        have hlen' : s.L.length ≤ 1000 := by omega
        by_cases h0 : ok = 0
        · subst h0
          have hOkS := hidden_ ((hs.addS (z := ot) (co := oc) hwf).mono (Nat.le_succ k))
          have hLen := hidden_ (show (addS s ot oi oc).L.length ≤ k + 1 by have := addS_len s ot oi oc; omega)
          have key := hidden_ (fun (W : World) (h : Bt w.heap.size w W f F s) => bt_add h hs (by omega) hlen' ot oi oc)
          obtain ⟨S, eS⟩ : ∃ S, addS s ot oi oc = S := ⟨_, rfl⟩
          obtain ⟨X, eX⟩ : ∃ X, addE s ot oi oc = X := ⟨_, rfl⟩
          have key2 := key.out
          simp only [eS, eX] at key2
          rw [eS] at hOkS hLen
          have kA := key2 _ hq.out.1.drew
          have g1 := hq.out.2.c1
          have g2 := hq.out.2.c2
          have g3 := hq.out.2.c3
          dsimp only at g1 g2 g3
          have vX : (X != X) = false := by simp
          have hbD := hidden_ (show BoxAt A.drew E ⟨0, ot, oi, oc⟩ from hq.out.2.below (below_drew (Below.refl _ _) ⟨1, rfl⟩))
          clear hs hlen hlen' key key2 eS eX hwf
          go_upto_region 11 with fail
          clear eA eE d0 d1' d2' d3' g0
          go_region_held3 (fun W => W.cell? ⟨E, 1, none⟩ = some (.int .i64 ot) ∧ W.cell? ⟨E, 2, none⟩ = some (.int .i64 oi) ∧ W.cell? ⟨E, 3, none⟩ = some (.int .i64 oc)) (first | assumption | (exact ⟨g1, g2, g3⟩) | exact b2 | exact b1) (first
            | (go_at_call 9; refine kA.mono ?_; rintro e W2 ⟨rfl, hbx, k10⟩; have bx := hbx _ _ hbD.out; have b1 : W2.cell? ⟨E, 1, none⟩ = some (.int .i64 ot) ∧ W2.cell? ⟨E, 2, none⟩ = some (.int .i64 oi) ∧ W2.cell? ⟨E, 3, none⟩ = some (.int .i64 oc) := ⟨bx.c1, bx.c2, bx.c3⟩; have bxH := hidden_ bx; clear hbx bx kA)
            | (go_at_call 10; refine k10.mono ?_; rintro e W3 ⟨rfl, h3, h4⟩; have hZ := hidden_ h3; have bx := h4 _ _ bxH.out; have b2 : W3.cell? ⟨E, 1, none⟩ = some (.int .i64 ot) ∧ W3.cell? ⟨E, 2, none⟩ = some (.int .i64 oi) ∧ W3.cell? ⟨E, 3, none⟩ = some (.int .i64 oc) := ⟨bx.c1, bx.c2, bx.c3⟩; clear h3 h4 bx k10))
          clear b1 b2 g1 g2 g3 bxH hbD
          go_wp2

          go_loopw [17] (fun t wr2 => ∃ j : Nat, j ≤ n0 + 2 ∧ (∃ T : Int, T = (j : Int) - 1 ∧ t = .int .i64 T) ∧ wr2 = W3) (fun t _ => n0 + 2 - (intOf t + 1).toNat)
          case atStart => exact ⟨0, Nat.zero_le _, ⟨_, rfl, rfl⟩, rfl⟩
          case round =>
            obtain ⟨j, hj, ⟨T, hT, rfl⟩, hw2⟩ := hrel
            subst hw2
            by_cases hjn : j ≤ n0 + 1
            · have hTn : T ≤ (n0 : Int) := by omega
              have hT0 : -1 ≤ T := by omega
              have hTT := hidden_ hT
              obtain ⟨k15, k16, k17, k18⟩ := bt_tells hZ.out hOkS.out T
              obtain ⟨V, eV⟩ : ∃ V : Int, (waitZ S T : Int) = V := ⟨_, rfl⟩
              obtain ⟨C, eC⟩ : ∃ C : Int, clockZ S T = C := ⟨_, rfl⟩
              simp only [eV, eC] at k15 k16 k17 k18
              have v1 : (V != V) = false := by simp
              have v3 : (C != C) = false := by simp
              clear eV eC hT
              go_wp2_with (first
                | (go_at_call 15; refine k15.mono ?_; rintro e W5 ⟨rfl, h5⟩; obtain rfl := h5.symm; clear k15)
                | (go_at_call 16; refine k16.mono ?_; rintro e W5 ⟨rfl, h5⟩; obtain rfl := h5.symm; clear k16)
                | (go_at_call 17; refine k17.mono ?_; rintro e W5 ⟨rfl, h5⟩; obtain rfl := h5.symm; clear k17)
                | (go_at_call 18; refine k18.mono ?_; rintro e W5 ⟨rfl, h5⟩; obtain rfl := h5.symm; clear k18))
              go_roundw
              case rel => exact ⟨j + 1, by omega, ⟨_, by have := hTT.out; omega, rfl⟩, trivial⟩
              case measure => have := hTT.out; simp [intOf]; omega
            · have hTn : ¬ T ≤ (n0 : Int) := by omega
              clear hT
              go_wp2
              go_roundw
              case rel => exact ⟨k + 1, by omega, by omega, by go_num, S, hOkS.out, hLen.out, hZ.out⟩
              case measure => simp [intOf]; omega
        · have h0' : (ok == 0) = false := by simp [h0]
          by_cases h1 : ok = 1
          · subst h1
            have hOkS := hidden_ hs.nextS
            have hLen := hidden_ (show (nextS s).L.length ≤ k + 1 by have := nextS_len s; omega)
            have kA := bt_next hq.out.1 hs (by omega) hlen'
            obtain ⟨S, eS⟩ : ∃ S, nextS s = S := ⟨_, rfl⟩
            rw [eS] at hOkS hLen
            simp only [eS] at kA
            obtain ⟨X, Y, b, eX⟩ : ∃ X Y b, nextV (nextO s) = .tuple #[.int .i64 X, .int .i64 Y, .bool b] := by cases nextO s <;> exact ⟨_, _, _, rfl⟩
            simp only [eX] at kA
            have vX : (X != X) = false := by simp
            have vY : (Y != Y) = false := by simp
            have vb : (b != b) = false := by simp
            clear hs hlen hlen' eS eX hwf
            go_upto_region 14 with fail
            clear eA eE d0 d1' d2' d3' g0
            go_wp2_with (first
              | (go_at_call 11; refine kA.mono ?_; rintro e W2 ⟨rfl, -, k12⟩; clear kA)
              | (go_at_call 12; refine k12.mono ?_; rintro e W3 ⟨rfl, h3, -⟩; have hZ := hidden_ h3; clear h3 k12))

            go_loopw [17] (fun t wr2 => ∃ j : Nat, j ≤ n0 + 2 ∧ (∃ T : Int, T = (j : Int) - 1 ∧ t = .int .i64 T) ∧ wr2 = W3) (fun t _ => n0 + 2 - (intOf t + 1).toNat)
            case atStart => exact ⟨0, Nat.zero_le _, ⟨_, rfl, rfl⟩, rfl⟩
            case round =>
              obtain ⟨j, hj, ⟨T, hT, rfl⟩, hw2⟩ := hrel
              subst hw2
              by_cases hjn : j ≤ n0 + 1
              · have hTn : T ≤ (n0 : Int) := by omega
                have hT0 : -1 ≤ T := by omega
                have hTT := hidden_ hT
                obtain ⟨k15, k16, k17, k18⟩ := bt_tells hZ.out hOkS.out T
                obtain ⟨V, eV⟩ : ∃ V : Int, (waitZ S T : Int) = V := ⟨_, rfl⟩
                obtain ⟨C, eC⟩ : ∃ C : Int, clockZ S T = C := ⟨_, rfl⟩
                simp only [eV, eC] at k15 k16 k17 k18
                have v1 : (V != V) = false := by simp
                have v3 : (C != C) = false := by simp
                clear eV eC hT
                go_wp2_with (first
                  | (go_at_call 15; refine k15.mono ?_; rintro e W5 ⟨rfl, h5⟩; obtain rfl := h5.symm; clear k15)
                  | (go_at_call 16; refine k16.mono ?_; rintro e W5 ⟨rfl, h5⟩; obtain rfl := h5.symm; clear k16)
                  | (go_at_call 17; refine k17.mono ?_; rintro e W5 ⟨rfl, h5⟩; obtain rfl := h5.symm; clear k17)
                  | (go_at_call 18; refine k18.mono ?_; rintro e W5 ⟨rfl, h5⟩; obtain rfl := h5.symm; clear k18))
                go_roundw
                case rel => exact ⟨j + 1, by omega, ⟨_, by have := hTT.out; omega, rfl⟩, trivial⟩
                case measure => have := hTT.out; simp [intOf]; omega
              · have hTn : ¬ T ≤ (n0 : Int) := by omega
                clear hT
                go_wp2
                go_roundw
                case rel => exact ⟨k + 1, by omega, by omega, by go_num, S, hOkS.out, hLen.out, hZ.out⟩
                case measure => simp [intOf]; omega
          · have h1' : (ok == 1) = false := by simp [h1]
            by_cases h2 : ok = 2
            · subst h2
              have hOkS := hidden_ ((hs.canS oi).mono (Nat.le_succ k))
              have hLen := hidden_ (show (canS s oi).L.length ≤ k + 1 by have := canS_len s oi; omega)
              have kA := bt_cancel hq.out.1.drew hs hlen' oi
              obtain ⟨S, eS⟩ : ∃ S, canS s oi = S := ⟨_, rfl⟩
              obtain ⟨X, eX⟩ : ∃ X, hasB s.L oi = X := ⟨_, rfl⟩
              simp only [eS, eX] at kA
              rw [eS] at hOkS hLen
              have g2 := hq.out.2.c2
              dsimp only at g2
              have vX : (X != X) = false := by simp
              have hbD := hidden_ (show BoxAt A.drew E ⟨2, ot, oi, oc⟩ from hq.out.2.below (below_drew (Below.refl _ _) ⟨1, rfl⟩))
              clear hs hlen hlen' eS eX hwf
              go_upto_region 19 with fail
              clear eA eE d0 d1' d2' d3' g0
              go_region_held3 (fun W => W.cell? ⟨E, 2, none⟩ = some (.int .i64 oi)) (first | assumption | (exact g2) | exact b2 | exact b1) (first
                | (go_at_call 13; refine kA.mono ?_; rintro e W2 ⟨rfl, hbx, k10⟩; have bx := hbx _ _ hbD.out; have b1 : W2.cell? ⟨E, 2, none⟩ = some (.int .i64 oi) := bx.c2; have bxH := hidden_ bx; clear hbx bx kA)
                | (go_at_call 14; refine k10.mono ?_; rintro e W3 ⟨rfl, h3, h4⟩; have hZ := hidden_ h3; have bx := h4 _ _ bxH.out; have b2 : W3.cell? ⟨E, 2, none⟩ = some (.int .i64 oi) := bx.c2; clear h3 h4 bx k10))
              clear b1 b2 g2 bxH hbD
              go_wp2

              go_loopw [17] (fun t wr2 => ∃ j : Nat, j ≤ n0 + 2 ∧ (∃ T : Int, T = (j : Int) - 1 ∧ t = .int .i64 T) ∧ wr2 = W3) (fun t _ => n0 + 2 - (intOf t + 1).toNat)
              case atStart => exact ⟨0, Nat.zero_le _, ⟨_, rfl, rfl⟩, rfl⟩
              case round =>
                obtain ⟨j, hj, ⟨T, hT, rfl⟩, hw2⟩ := hrel
                subst hw2
                by_cases hjn : j ≤ n0 + 1
                · have hTn : T ≤ (n0 : Int) := by omega
                  have hT0 : -1 ≤ T := by omega
                  have hTT := hidden_ hT
                  obtain ⟨k15, k16, k17, k18⟩ := bt_tells hZ.out hOkS.out T
                  obtain ⟨V, eV⟩ : ∃ V : Int, (waitZ S T : Int) = V := ⟨_, rfl⟩
                  obtain ⟨C, eC⟩ : ∃ C : Int, clockZ S T = C := ⟨_, rfl⟩
                  simp only [eV, eC] at k15 k16 k17 k18
                  have v1 : (V != V) = false := by simp
                  have v3 : (C != C) = false := by simp
                  clear eV eC hT
                  go_wp2_with (first
                    | (go_at_call 15; refine k15.mono ?_; rintro e W5 ⟨rfl, h5⟩; obtain rfl := h5.symm; clear k15)
                    | (go_at_call 16; refine k16.mono ?_; rintro e W5 ⟨rfl, h5⟩; obtain rfl := h5.symm; clear k16)
                    | (go_at_call 17; refine k17.mono ?_; rintro e W5 ⟨rfl, h5⟩; obtain rfl := h5.symm; clear k17)
                    | (go_at_call 18; refine k18.mono ?_; rintro e W5 ⟨rfl, h5⟩; obtain rfl := h5.symm; clear k18))
                  go_roundw
                  case rel => exact ⟨j + 1, by omega, ⟨_, by have := hTT.out; omega, rfl⟩, trivial⟩
                  case measure => have := hTT.out; simp [intOf]; omega
                · have hTn : ¬ T ≤ (n0 : Int) := by omega
                  clear hT
                  go_wp2
                  go_roundw
                  case rel => exact ⟨k + 1, by omega, by omega, by go_num, S, hOkS.out, hLen.out, hZ.out⟩
                  case measure => simp [intOf]; omega
            · have h2' : (ok == 2) = false := by simp [h2]
              have hOkS := hidden_ (hs.mono (Nat.le_succ k))
              have hLen := hidden_ (show s.L.length ≤ k + 1 by omega)
              have hZ := hidden_ hq.out.1
              obtain ⟨S, eS⟩ : ∃ S, s = S := ⟨_, rfl⟩
              rw [eS] at hOkS hLen hZ
              clear hs hlen hlen' hwf
              go_upto_region 21 with fail
              clear eA eE d0 d1' d2' d3' g0
              go_wp2

              go_loopw [17] (fun t wr2 => ∃ j : Nat, j ≤ n0 + 2 ∧ (∃ T : Int, T = (j : Int) - 1 ∧ t = .int .i64 T) ∧ wr2 = A) (fun t _ => n0 + 2 - (intOf t + 1).toNat)
              case atStart => exact ⟨0, Nat.zero_le _, ⟨_, rfl, rfl⟩, rfl⟩
              case round =>
                obtain ⟨j, hj, ⟨T, hT, rfl⟩, hw2⟩ := hrel
                subst hw2
                by_cases hjn : j ≤ n0 + 1
                · have hTn : T ≤ (n0 : Int) := by omega
                  have hT0 : -1 ≤ T := by omega
                  have hTT := hidden_ hT
                  obtain ⟨k15, k16, k17, k18⟩ := bt_tells hZ.out hOkS.out T
                  obtain ⟨V, eV⟩ : ∃ V : Int, (waitZ S T : Int) = V := ⟨_, rfl⟩
                  obtain ⟨C, eC⟩ : ∃ C : Int, clockZ S T = C := ⟨_, rfl⟩
                  simp only [eV, eC] at k15 k16 k17 k18
                  have v1 : (V != V) = false := by simp
                  have v3 : (C != C) = false := by simp
                  clear eV eC hT
                  go_wp2_with (first
                    | (go_at_call 15; refine k15.mono ?_; rintro e W5 ⟨rfl, h5⟩; obtain rfl := h5.symm; clear k15)
                    | (go_at_call 16; refine k16.mono ?_; rintro e W5 ⟨rfl, h5⟩; obtain rfl := h5.symm; clear k16)
                    | (go_at_call 17; refine k17.mono ?_; rintro e W5 ⟨rfl, h5⟩; obtain rfl := h5.symm; clear k17)
                    | (go_at_call 18; refine k18.mono ?_; rintro e W5 ⟨rfl, h5⟩; obtain rfl := h5.symm; clear k18))
                  go_roundw
                  case rel => exact ⟨j + 1, by omega, ⟨_, by have := hTT.out; omega, rfl⟩, trivial⟩
                  case measure => have := hTT.out; simp [intOf]; omega
                · have hTn : ¬ T ≤ (n0 : Int) := by omega
                  clear hT
                  go_wp2
                  go_roundw
                  case rel => exact ⟨k + 1, by omega, by omega, by go_num, S, hOkS.out, hLen.out, hZ.out⟩
                  case measure => simp [intOf]; omega
      · have hb := hidden_ hB.b
        clear hB
        by_cases y1 : k < n1
        · have y2' : ¬ (k : Int) < 200 := by omega
          have y1' : (k : Int) < (n1 : Int) := by omega
          clear hlt
          go_wp2
          go_ret
          exact ⟨rfl, hb.out⟩
        · have y1' : ¬ (k : Int) < (n1 : Int) := by omega
          clear hlt
          go_wp2
          go_ret
          exact ⟨rfl, hb.out⟩

theorem contract (H : Type) (enc : TypeId × Value → H) (W : World) (base : Nat) (args : Array Value) (ds gs : List (DataW H)) (before : List MemPlace)
    (hval0 : ∀ (j : Nat) t v, Try.f3.params[j]? = some t → args[j]? = some v → Value.okWide Try.prog W .any base t v)
    (hW : DataW.Whole enc Try.prog Try.f3.params.toList Rows.fairDoesSpec.vars false W args.toList ds gs before)
    (hsz0 : (DataW.weightsEach Try.prog (Try.f3.params.toList ++ Rows.fairDoesSpec.plain.varTypes Try.prog) (ds ++ gs)).all (· ≤ reachBytes) = true) :
    Calls Try.prog 3 args W fun e W' => ∃ v, e = .returned v ∧ Rows.fairDoesSpec.post enc Try.prog Try.f3 false true false false W args v W' := by
  have hval : ∀ (j : Nat) t v, Try.f3.params[j]? = some t → args[j]? = some v → Value.okWide Try.prog W .any base t v := hval0
  have hW' := hW
  obtain ⟨p, q, hA0, hV, rfl, hfz, hnd⟩ := hW
  have hA : DataW.TrodAll enc Try.prog W 0 (fun _ => true) true Try.f3.params.toList args.toList ds p := hA0
  have hsz : (DataW.weightsEach Try.prog (Try.f3.params.toList ++ Rows.fairDoesSpec.plain.varTypes Try.prog) (ds ++ gs)).all (· ≤ reachBytes) = true := hsz0
  rw [Try.params3] at hA hval hsz
  obtain ⟨v0, vs0, d0, ds0, p0, q0, hargs, rfl, rfl, h0, r0⟩ := trodAll_cons hA
  obtain ⟨v1, vs1, d1, ds1, p1, q1, rfl, rfl, rfl, h1, r1⟩ := trodAll_cons r0
  obtain ⟨rfl, rfl, rfl⟩ := trodAll_nil r1
  obtain rfl : args = #[v0, v1] := by cases args; simp_all
  obtain ⟨rfl, rfl⟩ := trodVars_none hV
  obtain ⟨a0, n0, c0, rfl⟩ := okWide_slice Try.underlying22 (hval 0 22 v0 rfl rfl)
  have k0 := h0
  have lt0 : ∀ x ∈ p0, x.block < W.heap.size := by obtain ⟨m, hm⟩ := k0; exact DataW.trod_lt m _ _ _ hm
  obtain ⟨z0, w0, e0, l0, s0⟩ : ∃ zs, Reads .i64 W a0 n0 zs ∧ (a0 = none → c0 = 0) ∧ n0 ≤ c0 ∧ (n0 = 0 ∨ ∃ el sp, d0 = .slice el sp ∧ n0 ≤ el.length + sp.length) := by
    obtain ⟨fuel, hf⟩ := h0
    rcases open_ints Try.underlying22 Try.underlying3 (by kernel_rfl) hf with ⟨hcs, hd⟩ | ⟨x, l, c, zs, hcs, _, hl, hm, hz, hd, hcell, hwz⟩
    · simp [Value.cells] at hcs
      obtain ⟨rfl, rfl, rfl⟩ := hcs
      exact ⟨[], Reads.nil _ _, fun _ => rfl, Nat.le_refl _, .inl rfl⟩
    · simp [Value.cells] at hcs
      obtain ⟨rfl, rfl, rfl⟩ := hcs
      exact ⟨_, Reads.of_open hl hm (by simpa using hz) hcell hwz, (fun h => by cases h), hl, .inr ⟨_, _, congrArg Prod.fst hd, open_length (by simpa using hz) hl⟩⟩
  obtain ⟨a1, n1, c1, rfl⟩ := okWide_slice Try.underlying23 (hval 1 23 v1 rfl rfl)
  have k1 := h1
  have lt1 : ∀ x ∈ p1, x.block < W.heap.size := by obtain ⟨m, hm⟩ := k1; exact DataW.trod_lt m _ _ _ hm
  obtain ⟨O1, w1, e1, l1⟩ := open_ops h1
  have b0 : n0 * 8 ≤ 140737488351232 := by
    rcases s0 with rfl | ⟨el, sp, rfl, hle⟩
    · decide
    · have := sized_slice hsz (j := 0) (t := 22) (e := 3) rfl rfl Try.underlying22
      rw [bytes3] at this
      simp only [reachBytes] at this
      omega
  clear hA0 hval0
  refine (walk a0 n0 c0 z0 a1 n1 c1 O1 W w0 e0 l0 w1 e1 l1 b0).mono fun e W' ⟨he, bel⟩ => ?_
  subst he
  exact ⟨_, rfl, _, _, _, [], _, [], hW', trodAll_mk1 (shut_bool Try.underlying4 _), (trodAll_cons_mk (Below.trod laidOut (by kernel_rfl) (of_decide_eq_true (by kernel_rfl)) k0 bel lt0) (trodAll_cons_mk (Below.trod laidOut (by kernel_rfl) (of_decide_eq_true (by kernel_rfl)) k1 bel lt1) trodAll_mk0)), rfl, bel.frame _, fun h => by cases h⟩

set_option maxRecDepth 100000 in
theorem lifted (os : Os) (started : os.Started) (H : Type) (enc : TypeId × Value → H) :
    ReturnsInHanded {} Try.checked os 3 .any (Rows.fairDoesSpec.pre6 enc Try.prog Try.f3 Rows.fairDoesRow.domain false) (Rows.fairDoesSpec.post enc Try.prog Try.f3 false true false false) := by
  refine returnsInHanded_of_change_sized (C := Try.checked) own started (by kernel_rfl) Try.func3
    (ChangeSpec.witness6 (enc := enc) (C := Try.checked) false ⟨#[], #[.slice none 0 0, .slice none 0 0], []⟩ 8 (by kernel_rfl) (by kernel_rfl) (by kernel_rfl) (by kernel_rfl)) ?_
  intro W base args ds gs before hval hW _ hsz _
  exact contract H enc W base args ds gs before hval hW hsz

theorem over : Rows.fairDoesRow.holds Try.pinned (OpenSpec.ofChange Rows.fairDoesSpec) :=
  OpenClaim.holds_of_wide 3 Try.f3 rfl rfl rfl rfl rfl rfl rfl ⟨rfl, rfl, rfl, rfl, rfl⟩ rfl rfl rfl rfl rfl (by kernel_rfl) Try.func3 (by kernel_rfl)
    (of_decide_eq_true (by kernel_rfl)) (by unfold Func.isWrapper; first | (rw [if_pos (by decide +kernel)]; kernel_rfl) | (rw [if_neg (by decide +kernel)]; exact ⟨rfl, rfl⟩))
    (fun os started H enc _ => lifted os started H enc)

theorem proved : Rows.FairDoesSaid :=
  over
#print axioms proved
end Go.Proofs.Ytkjmlbllpnehlaa.fairDoes
