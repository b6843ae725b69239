/- For every case of beams and rows of scores the Go function BeamGrows returns true (the program's best beams with a token more, their places, the error, the final scores and the best place are the document's, in cases of fewer than two hundred beams, tokens and scores) and leaves its arguments as they were; no condition. -/
import Derived.Test.YteeljnibglnflaaRows
import Derived.Test.YteeljnibglnflaaView
import Derived.Test.YteeljnibglnflaaOwn
import Derived.Test.YteeljnibglnflaaWhere
import Derived.Test.YteeljnibglnflaaWorks
import Derived.Test.YteeljnibglnflaaSteps
import Derived.Test.YteeljnibglnflaaSat
import Derived.Test.YteeljnibglnflaaSatRef
import Derived.Test.YteeljnibglnflaaRanks
import Derived.Test.YteeljnibglnflaaRank
import Derived.Test.YteeljnibglnflaaRefTop
import Derived.Test.YteeljnibglnflaaGSameI
import Derived.Test.YteeljnibglnflaaGMean
import Derived.Test.YteeljnibglnflaaBmZ
import Derived.Test.YteeljnibglnflaaBmAt
import Derived.Test.YteeljnibglnflaaBmFin
import Derived.Test.YteeljnibglnflaaBmFits
import Derived.Test.YteeljnibglnflaaBmWhole
import Derived.Test.YteeljnibglnflaaBmCd
import Derived.Test.YteeljnibglnflaaBmCand
import Derived.Test.YteeljnibglnflaaBmGI
import Derived.Test.YteeljnibglnflaaBmGrow
import Derived.Test.YteeljnibglnflaaBmReg
import Derived.Test.YteeljnibglnflaaBmRun
import Derived.Test.YteeljnibglnflaaBmTo
import Derived.Test.YteeljnibglnflaaBmSame
import Derived.Test.YteeljnibglnflaaBmBest
import Derived.Test.YteeljnibglnflaaBmCase
import Derived.Test.YteeljnibglnflaaBmOrdZ
import Derived.Test.YteeljnibglnflaaBmBox
import Derived.Test.YteeljnibglnflaaBmRegG
import Derived.Test.YteeljnibglnflaaBmRunO
import Derived.Test.YteeljnibglnflaaBmStepH
import Derived.Test.YteeljnibglnflaaBmRefZ
import Derived.Test.YteeljnibglnflaaBmRefH
import Derived.Test.YteeljnibglnflaaGInvIn
import Derived.WalkKit
import Derived.ProofKit
import Derived.OpenShut
import Derived.ChangeOld
import Derived.Below
import Derived.WalkLawsBesides
import Derived.ChangeMaps5
import Derived.Deep.Cut
import Derived.Deep.CutRange
import Derived.Deep.CutBlock
import Derived.Laws.OwnMore
import Derived.Deep.QuietTactic
import Derived.BigQuiet
import Derived.Laws.AppendOwnNone
import Derived.SizedLaws
namespace Go.Proofs.Yteeljnibglnflaa.beamGrows
set_option maxRecDepth 20000
open Go.ChangeShapes Go.WideShapes Go.ChangeAt Go.RowKit
set_option linter.unusedVariables false
set_option linter.unusedSimpArgs false

theorem own : ownKnob Try.prog.godebug = none := by kernel_rfl
theorem laidOut : laidOutB Try.prog = true := by kernel_rfl



set_option maxHeartbeats 4000000 in
set_option maxRecDepth 20000 in
theorem walk (C0 : CsV) (w : World) (w0 : CsAt w C0) :
    Calls Try.prog 3 #[C0.v] w fun e w' => e = .returned (.bool true) ∧ Below w.heap.size w w' := by
  obtain ⟨la, n, lc, A, C, L, ra, m, rc, A1, C1, R, Wd, Ln, St, Pn⟩ := C0
  obtain ⟨hB, le, ll, hG, re, rl, wW, wL, wS, wP, bn, bt, br⟩ := w0
  dsimp only [CsV.v] at *
  have kg := fun W hb => great_call la n lc A C L ra m rc A1 C1 R Wd Ln St Pn W (hB.below hb) (hG.below hb) (by omega) (fun r hr => by have := bt r hr; omega) (fun r hr => by have := br r hr; omega)
  have X0 : Hid (Box _ w.heap.size la n lc ra m rc Wd Ln St Pn) := Box.new w la n lc ra m rc Wd Ln St Pn
  obtain ⟨q0, q1, q2, q3, q4, q5⟩ := X0.out
  go_enter Try.func3, Try.ntmps3
  go_upto_if 12 with (go_at_call 8; refine (kg _ (below_new (Below.refl _ _) _)).mono ?_; rintro e W2 ⟨⟨g, rfl, hg⟩, hb2⟩)
  have X2 : Hid (Box W2 w.heap.size la n lc ra m rc Wd Ln St Pn) := X0.out.below hb2
  have hbW2 := below_then (below_new (Below.refl w.heap.size w) _) hb2
  clear q0 q1 q2 q3 q4 q5 X0 kg hb2
  cases g with
  | true =>
    go_wp2
    go_ret
    exact ⟨rfl, hbW2⟩
  | false =>
    obtain ⟨hg1, hg2, hg3⟩ := hg rfl
    have hn : n ≤ 1000 := by omega
    have hT : ∀ r, r < n → (L r).t.length ≤ 1000000 := fun r hr => by have := hg2 r hr; omega
    have hR : ∀ r, r < m → (R r).length ≤ 1000 := fun r hr => by have := hg3 r hr; omega
    have HT : Hid (∀ r, r < n → (L r).t.length ≤ 1000000) := hT
    have HR : Hid (∀ r, r < m → (R r).length ≤ 1000) := hR
    have HB : Hid (BmAt w la n A C L) := hB
    have HG : Hid (Grid w ra m A1 C1 R) := hG
    clear hg2 hg3 hT hR hB hG bt br hg
    obtain ⟨q0, q1, q2, q3, q4, q5⟩ := X2.out
    go_wp2_with (first
      | (go_at_call 9; refine (To_call la n lc A C L _ (HB.out.below hbW2) hn HT.out).mono ?_; rintro e W3 ⟨⟨oa, oc, OA, OC, rfl, hBo, _, _⟩, hb3⟩
         have X3 : Hid (Box W3 w.heap.size la n lc ra m rc Wd Ln St Pn) := X2.out.below hb3
         have hbW3 := below_then hbW2 hb3
         have HBo3 : Hid (BmAt W3 oa n OA OC L) := hBo
         clear hBo hb3 q0 q1 q2 q3 q4 q5 hbW2 X2
         obtain ⟨q0, q1, q2, q3, q4, q5⟩ := X3.out)
      | (go_at_call 10; refine (Grow_call oa n oc OA OC L ra m rc A1 C1 R Wd Ln St _ HBo3.out (HG.out.below hbW3) rl HR.out hn HT.out).mono ?_; rintro e W4 ⟨⟨ya, yb, yc, yd, Ar, Cr, rfl, _, _, _, _, hYa, hYb⟩, hb4⟩
         have X4 : Hid (Box W4 w.heap.size la n lc ra m rc Wd Ln St Pn) := X3.out.below hb4
         have hbW4 := below_then hbW3 hb4
         have HBo4 : Hid (BmAt W4 oa n OA OC L) := HBo3.out.below hb4
         have HYa4 : Hid _ := hYa
         have HYb4 : Hid _ := hYb
         clear hYa hYb hb4 q0 q1 q2 q3 q4 q5 hbW3 X3 HBo3
         obtain ⟨q0, q1, q2, q3, q4, q5⟩ := X4.out)
      | (go_at_call 11; refine (refGrow_call la n lc A C L ra m rc A1 C1 R Wd Ln St _ (HB.out.below hbW4) (HG.out.below hbW4) HR.out hn HT.out).mono ?_; rintro e WA ⟨⟨za, zb, zc, zd, Az, Cz, rfl, hZa, hZb⟩, hb5⟩
         have X9 : Hid (Box WA w.heap.size la n lc ra m rc Wd Ln St Pn) := X4.out.below hb5
         have hbA := below_then hbW4 hb5
         have HBo : Hid (BmAt WA oa n OA OC L) := HBo4.out.below hb5
         have HB9 : Hid (BmAt WA la n A C L) := HB.out.below hbA
         have HYa : Hid _ := HYa4.out.below hb5
         have HYb : Hid _ := HYb4.out.below hb5
         have HZa : Hid _ := hZa
         have HZb : Hid _ := hZb
         clear hZa hZb hb5 q0 q1 q2 q3 q4 q5 hbW4 X4 HBo4 HYa4 HYb4))
    obtain ⟨G, eG⟩ : ∃ G, growL L n R m Wd Ln St = G := ⟨_, rfl⟩
    obtain ⟨EC, eEC⟩ : ∃ E, growE L n R m Wd = E := ⟨_, rfl⟩
    have hQ : (growL L n R m Wd Ln St).length ≤ 1000 := by
      by_cases hE : growE L n R m Wd = 0
      · have := growL_len (L := L) (n := n) (R := R) (m := m) (width := Wd) Ln St hE
        have := growE_ok hE
        omega
      · unfold growL; rw [if_neg hE]; decide
    simp only [eG, eEC] at HYa HYb HZa HZb hQ ⊢
    obtain ⟨QN, eQ⟩ : ∃ q, G.length = q := ⟨_, rfl⟩
    simp only [eQ] at HYa HYb HZa HZb hQ ⊢
    clear eG eEC eQ HT HR HG HB
    refine ga_region w.heap.size n QN yc yd zc zd oc lc ya yb za zb oa la EC (growB L G) L ((fun W => Below WA.heap.size WA W)) (by kernel_rfl) rfl ⟨_, rfl, rfl, rfl, rfl, by kernel_rfl⟩ ⟨_, rfl, rfl, rfl, rfl, by kernel_rfl⟩ ⟨_, rfl, rfl, rfl, rfl, by kernel_rfl⟩ ⟨_, rfl, rfl, rfl, rfl, by kernel_rfl⟩ ⟨_, rfl, rfl, rfl, rfl, by kernel_rfl⟩ ⟨_, rfl, rfl, rfl, rfl, by kernel_rfl⟩ ⟨_, rfl, rfl, rfl, rfl, by kernel_rfl⟩ ⟨_, rfl, rfl, rfl, rfl, by kernel_rfl⟩ ⟨_, rfl, rfl, rfl, rfl, by kernel_rfl⟩ ⟨_, rfl, rfl, rfl, rfl, by kernel_rfl⟩ ⟨_, rfl, rfl, rfl, rfl, by kernel_rfl⟩ ⟨_, rfl, rfl, rfl, rfl, by kernel_rfl⟩ ⟨_, rfl, rfl, rfl, rfl, by kernel_rfl⟩ ⟨_, rfl, rfl, rfl, rfl, by kernel_rfl⟩ ⟨_, rfl, rfl, rfl, rfl, by kernel_rfl⟩ ⟨_, rfl, rfl, rfl, rfl, by kernel_rfl⟩ ⟨_, rfl, rfl, rfl, rfl, by kernel_rfl⟩ ⟨_, rfl, rfl, rfl, rfl, by kernel_rfl⟩ ⟨_, rfl, rfl, rfl, rfl, by kernel_rfl⟩ ⟨_, rfl, rfl, rfl, rfl, by kernel_rfl⟩ ⟨_, rfl, rfl, rfl, rfl, by kernel_rfl⟩ ⟨_, rfl, rfl, rfl, rfl, by kernel_rfl⟩ ⟨_, rfl, rfl, rfl, rfl, by kernel_rfl⟩ ⟨_, rfl, rfl, rfl, rfl, by kernel_rfl⟩ (below_drew (Below.refl _ _) ⟨1, rfl⟩) (fun W h => from_stepS (S := (fun W => Below WA.heap.size WA W)) (fun _ _ h hb => below_then h hb) yc (HYa.out.below h) (by omega) h) (fun W xa xc XA XC h h1 => sameB_stepS (S := (fun W => Below WA.heap.size WA W)) (fun _ _ h hb => below_then h hb) xc zc h1 (HZa.out.below h) h) (fun W h => sameI_stepS (S := (fun W => Below WA.heap.size WA W)) (fun _ _ h hb => below_then h hb) yd zd (HYb.out.below h) (HZb.out.below h) h) (run_neq30 _) (fun W h => from_stepS (S := (fun W => Below WA.heap.size WA W)) (fun _ _ h hb => below_then h hb) oc (HBo.out.below h) hn h) (run_field25_0 _) (fun W h => run_load22 (X9.out.below h).c0) (fun W xa xc XA XC h h1 => sameB_stepS (S := (fun W => Below WA.heap.size WA W)) (fun _ _ h hb => below_then h hb) xc lc h1 (HB9.out.below h) h) rfl rfl rfl rfl rfl rfl rfl rfl (Nat.le_of_ble_eq_true rfl) ?_
    intro a WB hs hd hkp hS9 hval
    have e68 : a.tmps.getD 68 undef = .bool false := hval 23 68 (by decide) rfl
    have ep := frame_puts [45, 46, 47, 48, 49, 50, 51, 52, 53, 54, 55, 56, 57, 58, 59, 60, 61, 62, 63, 64, 65, 66, 67, 68] hs hd (fun s h => hkp s (fun i hi e => h (by
      rcases (show i = 0 ∨ i = 1 ∨ i = 2 ∨ i = 3 ∨ i = 4 ∨ i = 5 ∨ i = 6 ∨ i = 7 ∨ i = 8 ∨ i = 9 ∨ i = 10 ∨ i = 11 ∨ i = 12 ∨ i = 13 ∨ i = 14 ∨ i = 15 ∨ i = 16 ∨ i = 17 ∨ i = 18 ∨ i = 19 ∨ i = 20 ∨ i = 21 ∨ i = 22 ∨ i = 23 by omega) with rfl | rfl | rfl | rfl | rfl | rfl | rfl | rfl | rfl | rfl | rfl | rfl | rfl | rfl | rfl | rfl | rfl | rfl | rfl | rfl | rfl | rfl | rfl | rfl <;> (simp only [gaD, Option.some.injEq] at e; subst e; simp))))
    simp only [List.foldl] at ep
    rw [e68] at ep
    have H9 := hidden_ hS9
    clear hs hd hkp hval hS9 e68
    generalize a.tmps.getD 45 undef = g45 at ep
    generalize a.tmps.getD 46 undef = g46 at ep
    generalize a.tmps.getD 47 undef = g47 at ep
    generalize a.tmps.getD 48 undef = g48 at ep
    generalize a.tmps.getD 49 undef = g49 at ep
    generalize a.tmps.getD 50 undef = g50 at ep
    generalize a.tmps.getD 51 undef = g51 at ep
    generalize a.tmps.getD 52 undef = g52 at ep
    generalize a.tmps.getD 53 undef = g53 at ep
    generalize a.tmps.getD 54 undef = g54 at ep
    generalize a.tmps.getD 55 undef = g55 at ep
    generalize a.tmps.getD 56 undef = g56 at ep
    generalize a.tmps.getD 57 undef = g57 at ep
    generalize a.tmps.getD 58 undef = g58 at ep
    generalize a.tmps.getD 59 undef = g59 at ep
    generalize a.tmps.getD 60 undef = g60 at ep
    generalize a.tmps.getD 61 undef = g61 at ep
    generalize a.tmps.getD 62 undef = g62 at ep
    generalize a.tmps.getD 63 undef = g63 at ep
    generalize a.tmps.getD 64 undef = g64 at ep
    generalize a.tmps.getD 65 undef = g65 at ep
    generalize a.tmps.getD 66 undef = g66 at ep
    generalize a.tmps.getD 67 undef = g67 at ep
    simp only [Act.put, List.setIfInBounds_toArray, List.set_cons_succ, List.set_cons_zero] at ep
    subst ep
    have BB9 : Below WA.heap.size WA WB := H9.out
    clear H9
    obtain ⟨q0, q1, q2, q3, q4, q5⟩ := X9.out.below BB9
    go_wp2
    clear q0 q1 q2 q3 q4 q5 HYa HYb HZa HZb
    go_loopw [10] (fun s wr => ∃ k : Nat, k ≤ n ∧ s = .int .i64 k ∧ Below WA.heap.size WA wr) (fun s _ => n - (intOf s).toNat)
    case atStart => exact ⟨0, Nat.zero_le _, rfl, BB9⟩
    case round =>
      obtain ⟨k, hk, rfl, hbr⟩ := hrel
      obtain ⟨q0, q1, q2, q3, q4, q5⟩ := X9.out.below hbr
      by_cases hlt : k < n
      · obtain ⟨xo, hxo⟩ := HBo.out.some_ (by omega)
        subst hxo
        obtain ⟨xl, hxl⟩ := HB9.out.some_ (by omega)
        subst hxl
        obtain ⟨yo, eyo, d0, d1, d2⟩ := (HBo.out.below hbr).at3 (r := k) hlt
        obtain ⟨yl, eyl, f0, g1, g2⟩ := (HB9.out.below hbr).at3 (r := k) hlt
        have hwf := HB9.out.wf k hlt
        have hmT := (HB9.out.row k hlt).max
        obtain ⟨TN, eTN⟩ : ∃ T, (L k).t.length = T := ⟨_, rfl⟩
        rw [eTN] at d0 f0 hmT
        obtain ⟨SS, eSS⟩ : ∃ T, (L k).s = T := ⟨_, rfl⟩
        rw [eSS] at d1 g1 hwf
        obtain ⟨FF, eFF⟩ : ∃ T, (L k).f = T := ⟨_, rfl⟩
        rw [eFF] at d2 g2
        obtain ⟨AO, eAO⟩ : ∃ x, OA k = x := ⟨_, rfl⟩
        obtain ⟨CO, eCO⟩ : ∃ x, OC k = x := ⟨_, rfl⟩
        obtain ⟨AL, eAL⟩ : ∃ x, A k = x := ⟨_, rfl⟩
        obtain ⟨CL, eCL⟩ : ∃ x, C k = x := ⟨_, rfl⟩
        rw [eAO, eCO] at d0
        rw [eAL, eCL] at f0
        obtain ⟨f1, ef⟩ : ∃ f, divZ SS (65536 + 4096 * (min 64 (max 0 Pn)) * (min 1000 (TN : Int))) = f := ⟨_, rfl⟩
        have Hef : Hid (divZ SS (65536 + 4096 * (min 64 (max 0 Pn)) * (min 1000 (TN : Int))) = f1) := ef
        clear eTN eSS eFF eAO eCO eAL eCL ef
        go_wp2
        refine gf_region w.heap.size n oc lc k TN CO CL xo xl yo yl AO AL SS Pn f1 FF ((fun W => Below WA.heap.size WA W ∧ ∀ p v, wr.cell? p = some v → W.cell? p = some v)) (by kernel_rfl) rfl ⟨_, rfl, rfl, rfl, rfl, by kernel_rfl⟩ ⟨_, rfl, rfl, rfl, rfl, by kernel_rfl⟩ ⟨_, rfl, rfl, rfl, rfl, by kernel_rfl⟩ ⟨_, rfl, rfl, rfl, rfl, by kernel_rfl⟩ ⟨_, rfl, rfl, rfl, rfl, by kernel_rfl⟩ ⟨_, rfl, rfl, rfl, rfl, by kernel_rfl⟩ ⟨_, rfl, rfl, rfl, rfl, by kernel_rfl⟩ ⟨_, rfl, rfl, rfl, rfl, by kernel_rfl⟩ ⟨_, rfl, rfl, rfl, rfl, by kernel_rfl⟩ ⟨_, rfl, rfl, rfl, rfl, by kernel_rfl⟩ ⟨_, rfl, rfl, rfl, rfl, by kernel_rfl⟩ ⟨_, rfl, rfl, rfl, rfl, by kernel_rfl⟩ ⟨_, rfl, rfl, rfl, rfl, by kernel_rfl⟩ ⟨_, rfl, rfl, rfl, rfl, by kernel_rfl⟩ ⟨_, rfl, rfl, rfl, rfl, by kernel_rfl⟩ ⟨_, rfl, rfl, rfl, rfl, by kernel_rfl⟩ ⟨below_drew hbr ⟨1, rfl⟩, fun _ _ h => h⟩ (run_index27 xo yo n oc k hlt eyo) (fun W h => run_load40 (h.2 _ _ d0) (h.2 _ _ d1) (h.2 _ _ d2)) (run_field25_5 _) (fun W h => run_load3 (h.2 _ _ q5)) (fun W h => (final_call AO TN CO SS Pn FF hwf (by omega) W).mono (by rintro e W' ⟨rfl, hb⟩; exact ⟨by rw [Hef.out], hb, below_then h.1 hb, fun p v hp => below_cell hb (h.2 p v hp)⟩)) (run_field25_0 _) (fun W h => run_load22 (h.2 _ _ q0)) (run_index22 xl yl n lc k hlt eyl) (fun W h => run_load42 (h.2 _ _ f0) (h.2 _ _ g1) (h.2 _ _ g2)) (run_field25_5 _) (fun W h => run_load3 (h.2 _ _ q5)) (fun W h => (refFinal_call AL TN CL SS Pn FF hwf (by omega) W).mono (by rintro e W' ⟨rfl, hb⟩; exact ⟨by rw [Hef.out], hb, below_then h.1 hb, fun p v hp => below_cell hb (h.2 p v hp)⟩)) (run_neq2 _) rfl rfl rfl (Nat.le_of_ble_eq_true rfl) ?_
        intro a WC hs hd hkp hS9 hval
        have e91 : a.tmps.getD 91 undef = .bool false := hval 15 91 (by decide) rfl
        have ep := frame_puts [76, 77, 78, 79, 80, 81, 82, 83, 84, 85, 86, 87, 88, 89, 90, 91] hs hd (fun s h => hkp s (fun i hi e => h (by
          rcases (show i = 0 ∨ i = 1 ∨ i = 2 ∨ i = 3 ∨ i = 4 ∨ i = 5 ∨ i = 6 ∨ i = 7 ∨ i = 8 ∨ i = 9 ∨ i = 10 ∨ i = 11 ∨ i = 12 ∨ i = 13 ∨ i = 14 ∨ i = 15 by omega) with rfl | rfl | rfl | rfl | rfl | rfl | rfl | rfl | rfl | rfl | rfl | rfl | rfl | rfl | rfl | rfl <;> (simp only [gfD, Option.some.injEq] at e; subst e; simp))))
        simp only [List.foldl] at ep
        rw [e91] at ep
        have H9 := hidden_ hS9
        clear hs hd hkp hval hS9 e91
        generalize a.tmps.getD 76 undef = g76 at ep
        generalize a.tmps.getD 77 undef = g77 at ep
        generalize a.tmps.getD 78 undef = g78 at ep
        generalize a.tmps.getD 79 undef = g79 at ep
        generalize a.tmps.getD 80 undef = g80 at ep
        generalize a.tmps.getD 81 undef = g81 at ep
        generalize a.tmps.getD 82 undef = g82 at ep
        generalize a.tmps.getD 83 undef = g83 at ep
        generalize a.tmps.getD 84 undef = g84 at ep
        generalize a.tmps.getD 85 undef = g85 at ep
        generalize a.tmps.getD 86 undef = g86 at ep
        generalize a.tmps.getD 87 undef = g87 at ep
        generalize a.tmps.getD 88 undef = g88 at ep
        generalize a.tmps.getD 89 undef = g89 at ep
        generalize a.tmps.getD 90 undef = g90 at ep
        simp only [Act.put, List.setIfInBounds_toArray, List.set_cons_succ, List.set_cons_zero] at ep
        subst ep
        obtain ⟨hbC, -⟩ := H9.out
        clear H9 d0 d1 d2 f0 g1 g2 q0 q1 q2 q3 q4 q5 eyo eyl hwf hmT Hef
        go_wp2
        go_roundw
        case rel => exact ⟨k + 1, by omega, by go_num, hbC⟩
        case measure => simp [intOf]; omega
      · obtain rfl : n = k := by omega
        go_wp2
        refine gb_region w.heap.size n oc lc oa la Pn (maxZ (finals L n Pn)) ((fun W => Below WA.heap.size WA W)) (by kernel_rfl) rfl ⟨_, rfl, rfl, rfl, rfl, by kernel_rfl⟩ ⟨_, rfl, rfl, rfl, rfl, by kernel_rfl⟩ ⟨_, rfl, rfl, rfl, rfl, by kernel_rfl⟩ ⟨_, rfl, rfl, rfl, rfl, by kernel_rfl⟩ ⟨_, rfl, rfl, rfl, rfl, by kernel_rfl⟩ ⟨_, rfl, rfl, rfl, rfl, by kernel_rfl⟩ ⟨_, rfl, rfl, rfl, rfl, by kernel_rfl⟩ ⟨_, rfl, rfl, rfl, rfl, by kernel_rfl⟩ ⟨_, rfl, rfl, rfl, rfl, by kernel_rfl⟩ ⟨_, rfl, rfl, rfl, rfl, by kernel_rfl⟩ ⟨_, rfl, rfl, rfl, rfl, by kernel_rfl⟩ (below_drew hbr ⟨1, rfl⟩) (run_field25_5 _) (fun W h => run_load3 (X9.out.below h).c5) (fun W h => (Best_call oa n oc OA OC L Pn W (HBo.out.below h)).mono (by rintro e W' ⟨rfl, hb⟩; exact ⟨rfl, hb, below_then h hb⟩)) (run_field25_0 _) (fun W h => run_load22 (X9.out.below h).c0) (run_field25_5 _) (fun W h => run_load3 (X9.out.below h).c5) (fun W h => (refBest_call la n lc A C L Pn W (HB9.out.below h) hn).mono (by rintro e W' ⟨rfl, hb⟩; exact ⟨rfl, hb, below_then h hb⟩)) (run_eql3 _) rfl rfl (Nat.le_of_ble_eq_true rfl) ?_
        intro a WD hs hd hkp hS9 hval
        have e2 : a.tmps.getD 2 undef = .bool true := hval 10 2 (by decide) rfl
        have ep := frame_puts [92, 93, 94, 95, 96, 97, 98, 99, 100, 101, 2] hs hd (fun s h => hkp s (fun i hi e => h (by
          rcases (show i = 0 ∨ i = 1 ∨ i = 2 ∨ i = 3 ∨ i = 4 ∨ i = 5 ∨ i = 6 ∨ i = 7 ∨ i = 8 ∨ i = 9 ∨ i = 10 by omega) with rfl | rfl | rfl | rfl | rfl | rfl | rfl | rfl | rfl | rfl | rfl <;> (simp only [gbD, Option.some.injEq] at e; subst e; simp))))
        simp only [List.foldl] at ep
        rw [e2] at ep
        have H9 := hidden_ hS9
        clear hs hd hkp hval hS9 e2
        generalize a.tmps.getD 92 undef = g92 at ep
        generalize a.tmps.getD 93 undef = g93 at ep
        generalize a.tmps.getD 94 undef = g94 at ep
        generalize a.tmps.getD 95 undef = g95 at ep
        generalize a.tmps.getD 96 undef = g96 at ep
        generalize a.tmps.getD 97 undef = g97 at ep
        generalize a.tmps.getD 98 undef = g98 at ep
        generalize a.tmps.getD 99 undef = g99 at ep
        generalize a.tmps.getD 100 undef = g100 at ep
        generalize a.tmps.getD 101 undef = g101 at ep
        simp only [Act.put, List.setIfInBounds_toArray, List.set_cons_succ, List.set_cons_zero] at ep
        subst ep
        have hbD : Below WA.heap.size WA WD := H9.out
        clear H9
        go_wp2
        go_ret
        exact ⟨rfl, below_then hbA hbD⟩

theorem contract (H : Type) (enc : TypeId × Value → H) (W : World) (base : Nat) (args : Array Value) (ds gs : List (DataW H)) (before : List MemPlace)
    (hval0 : ∀ (j : Nat) t v, Try.f3.params[j]? = some t → args[j]? = some v → Value.okWide Try.prog W .any base t v)
    (hW : DataW.Whole enc Try.prog Try.f3.params.toList Rows.beamGrowsSpec.vars false W args.toList ds gs before)
    (hsz0 : (DataW.weightsEach Try.prog (Try.f3.params.toList ++ Rows.beamGrowsSpec.plain.varTypes Try.prog) (ds ++ gs)).all (· ≤ reachBytes) = true) :
    Calls Try.prog 3 args W fun e W' => ∃ v, e = .returned v ∧ Rows.beamGrowsSpec.post enc Try.prog Try.f3 false true false false W args v W' := by
  have hval : ∀ (j : Nat) t v, Try.f3.params[j]? = some t → args[j]? = some v → Value.okWide Try.prog W .any base t v := hval0
  have hW' := hW
  obtain ⟨p, q, hA0, hV, rfl, hfz, hnd⟩ := hW
  have hA : DataW.TrodAll enc Try.prog W 0 (fun _ => true) true Try.f3.params.toList args.toList ds p := hA0
  have hsz : (DataW.weightsEach Try.prog (Try.f3.params.toList ++ Rows.beamGrowsSpec.plain.varTypes Try.prog) (ds ++ gs)).all (· ≤ reachBytes) = true := hsz0
  rw [Try.params3] at hA hval hsz
  obtain ⟨v0, vs0, d0, ds0, p0, q0, hargs, rfl, rfl, h0, r0⟩ := trodAll_cons hA
  obtain ⟨rfl, rfl, rfl⟩ := trodAll_nil r0
  obtain rfl : args = #[v0] := by cases args; simp_all
  obtain ⟨rfl, rfl⟩ := trodVars_none hV
  have k0 := h0
  have lt0 : ∀ x ∈ p0, x.block < W.heap.size := by obtain ⟨m, hm⟩ := k0; exact DataW.trod_lt m _ _ _ hm
  obtain ⟨C0, rfl, s0⟩ := open_bcase (hval 0 25 v0 rfl rfl) h0
  have w0 : CsAt W C0 := s0 fun q hq => of_decide_eq_true (List.all_eq_true.1 hsz q (DataW.weights_mem_each (j := 0) rfl rfl q hq))
  clear hA0 hval0
  refine (walk C0 W w0).mono fun e W' ⟨he, bel⟩ => ?_
  subst he
  exact ⟨_, rfl, _, _, _, [], _, [], hW', trodAll_mk1 (shut_bool Try.underlying4 _), (trodAll_cons_mk (Below.trod laidOut (by kernel_rfl) (of_decide_eq_true (by kernel_rfl)) k0 bel lt0) trodAll_mk0), rfl, bel.frame _, fun h => by cases h⟩

set_option maxRecDepth 100000 in
theorem lifted (os : Os) (started : os.Started) (H : Type) (enc : TypeId × Value → H) :
    ReturnsInHanded {} Try.checked os 3 .any (Rows.beamGrowsSpec.pre6 enc Try.prog Try.f3 Rows.beamGrowsRow.domain false) (Rows.beamGrowsSpec.post enc Try.prog Try.f3 false true false false) := by
  refine returnsInHanded_of_change_sized (C := Try.checked) own started (by kernel_rfl) Try.func3
    (ChangeSpec.witness6 (enc := enc) (C := Try.checked) false ⟨#[], #[.agg #[.slice none 0 0, .slice none 0 0, .int .i64 0, .int .i64 0, .int .i64 0, .int .i64 0]], []⟩ 8 (by kernel_rfl) (by kernel_rfl) (by kernel_rfl) (by kernel_rfl)) ?_
  intro W base args ds gs before hval hW _ hsz _
  exact contract H enc W base args ds gs before hval hW hsz

theorem over : Rows.beamGrowsRow.holds Try.pinned (OpenSpec.ofChange Rows.beamGrowsSpec) :=
  OpenClaim.holds_of_wide 3 Try.f3 rfl rfl rfl rfl rfl rfl rfl ⟨rfl, rfl, rfl, rfl, rfl⟩ rfl rfl rfl rfl rfl (by kernel_rfl) Try.func3 (by kernel_rfl)
    (of_decide_eq_true (by kernel_rfl)) (by unfold Func.isWrapper; first | (rw [if_pos (by decide +kernel)]; kernel_rfl) | (rw [if_neg (by decide +kernel)]; exact ⟨rfl, rfl⟩))
    (fun os started H enc _ => lifted os started H enc)

theorem proved : Rows.BeamGrowsSaid :=
  over
#print axioms proved
end Go.Proofs.Yteeljnibglnflaa.beamGrows
