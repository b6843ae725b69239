/- For every case of beams and rows of scores the Go function BeamWide returns true (the best beams of a lesser width are the first of a greater width, of cases of fewer than two hundred beams, tokens and scores) and leaves its arguments as they were; no condition. -/
import Derived.Test.YteeljnibglnflaaRows
import Derived.Test.YteeljnibglnflaaView
import Derived.Test.YteeljnibglnflaaOwn
import Derived.Test.YteeljnibglnflaaWhere
import Derived.Test.YteeljnibglnflaaWorks
import Derived.Test.YteeljnibglnflaaSteps
import Derived.Test.YteeljnibglnflaaSat
import Derived.Test.YteeljnibglnflaaSatRef
import Derived.Test.YteeljnibglnflaaRanks
import Derived.Test.YteeljnibglnflaaRank
import Derived.Test.YteeljnibglnflaaRefTop
import Derived.Test.YteeljnibglnflaaGSameI
import Derived.Test.YteeljnibglnflaaGMean
import Derived.Test.YteeljnibglnflaaBmZ
import Derived.Test.YteeljnibglnflaaBmAt
import Derived.Test.YteeljnibglnflaaBmFin
import Derived.Test.YteeljnibglnflaaBmFits
import Derived.Test.YteeljnibglnflaaBmWhole
import Derived.Test.YteeljnibglnflaaBmCd
import Derived.Test.YteeljnibglnflaaBmCand
import Derived.Test.YteeljnibglnflaaBmGI
import Derived.Test.YteeljnibglnflaaBmGrow
import Derived.Test.YteeljnibglnflaaBmReg
import Derived.Test.YteeljnibglnflaaBmRun
import Derived.Test.YteeljnibglnflaaBmTo
import Derived.Test.YteeljnibglnflaaBmSame
import Derived.Test.YteeljnibglnflaaBmBest
import Derived.Test.YteeljnibglnflaaBmGreat
import Derived.Test.YteeljnibglnflaaBmWorks
import Derived.Test.YteeljnibglnflaaBmCase
import Derived.Test.YteeljnibglnflaaBmOrdZ
import Derived.Test.YteeljnibglnflaaBmBox
import Derived.Test.YteeljnibglnflaaBmBoxR
import Derived.Test.YteeljnibglnflaaBmRegG
import Derived.Test.YteeljnibglnflaaBmRunO
import Derived.Test.YteeljnibglnflaaBmRegO
import Derived.Test.YteeljnibglnflaaBmSteps
import Derived.Test.YteeljnibglnflaaBmRegW
import Derived.Test.YteeljnibglnflaaGInvIn
import Derived.WalkKit
import Derived.ProofKit
import Derived.OpenShut
import Derived.ChangeOld
import Derived.Below
import Derived.WalkLawsBesides
import Derived.ChangeMaps5
import Derived.Laws.OwnMore
import Derived.Deep.QuietTactic
import Derived.BigQuiet
import Derived.Laws.AppendOwnNone
import Derived.SizedLaws
namespace Go.Proofs.Yteeljnibglnflaa.beamWide
set_option maxRecDepth 20000
open Go.ChangeShapes Go.WideShapes Go.ChangeAt Go.RowKit
set_option linter.unusedVariables false
set_option linter.unusedSimpArgs false

theorem own : ownKnob Try.prog.godebug = none := by kernel_rfl
theorem laidOut : laidOutB Try.prog = true := by kernel_rfl



set_option maxHeartbeats 4000000 in
set_option maxRecDepth 20000 in
theorem walk (C0 : CsV) (w : World) (w0 : CsAt w C0) :
    Calls Try.prog 6 #[C0.v] w fun e w' => e = .returned (.bool true) ∧ Below w.heap.size w w' := by
  obtain ⟨la, n, lc, A, C, L, ra, m, rc, A1, C1, R, Wd, Ln, St, Pn⟩ := C0
  obtain ⟨hB, le, ll, hG, re, rl, wW, wL, wS, wP, bn, bt, br⟩ := w0
  dsimp only [CsV.v] at *
  have kg := fun W hb => great_call la n lc A C L ra m rc A1 C1 R Wd Ln St Pn W (hB.below hb) (hG.below hb) (by omega) (fun r hr => by have := bt r hr; omega) (fun r hr => by have := br r hr; omega)
  have X0 : Hid (Box _ w.heap.size la n lc ra m rc Wd Ln St Pn) := Box.new w la n lc ra m rc Wd Ln St Pn
  by_cases hW : 1 ≤ Wd ∧ Wd ≤ 3
  · obtain ⟨hW1, hW2⟩ := hW
    go_enter Try.func6, Try.ntmps6
    go_wp2_with (first
      | (go_at_call 19; refine (works_call _).mono ?_; rintro e W1 ⟨rfl, hb1⟩
         have X1 : Hid (Box W1 w.heap.size la n lc ra m rc Wd Ln St Pn) := X0.out.below hb1
         have hbW1 := below_then (below_new (Below.refl w.heap.size w) _) hb1
         obtain ⟨q0, q1, q2, q3, q4, q5⟩ := X1.out
         clear hb1 X0)
      | (go_at_call 8; refine (kg _ hbW1).mono ?_; rintro e W2 ⟨⟨g, rfl, hg⟩, hb2⟩
         have X2 : Hid (Box W2 w.heap.size la n lc ra m rc Wd Ln St Pn) := X1.out.below hb2
         have hbW2 := below_then hbW1 hb2
         obtain ⟨q0, q1, q2, q3, q4, q5⟩ := X2.out
         clear X1 kg))
    · go_ret
      exact ⟨rfl, hbW2⟩
    · obtain ⟨hg1, hg2, hg3⟩ := hg (by first | rfl | assumption | simp_all)
      clear q0 q1 q2 q3 q4 q5
      have hn : n ≤ 1000 := by omega
      have hT : ∀ r, r < n → (L r).t.length ≤ 1000000 := fun r hr => by have := hg2 r hr; omega
      have hR : ∀ r, r < m → (R r).length ≤ 1000 := fun r hr => by have := hg3 r hr; omega
      refine wa_region w.heap.size n m la ra lc rc Wd Ln St (growE L n R m Wd) (growL L n R m Wd Ln St).length L (growB L (growL L n R m Wd Ln St)) (growP (growL L n R m Wd Ln St)) ((fun W => Below w.heap.size w W ∧ Box W w.heap.size la n lc ra m rc Wd Ln St Pn)) (by kernel_rfl) rfl ⟨_, rfl, rfl, rfl, rfl, by kernel_rfl⟩ ⟨_, rfl, rfl, rfl, rfl, by kernel_rfl⟩ ⟨_, rfl, rfl, rfl, rfl, by kernel_rfl⟩ ⟨_, rfl, rfl, rfl, rfl, by kernel_rfl⟩ ⟨_, rfl, rfl, rfl, rfl, by kernel_rfl⟩ ⟨_, rfl, rfl, rfl, rfl, by kernel_rfl⟩ ⟨_, rfl, rfl, rfl, rfl, by kernel_rfl⟩ ⟨_, rfl, rfl, rfl, rfl, by kernel_rfl⟩ ⟨_, rfl, rfl, rfl, rfl, by kernel_rfl⟩ ⟨_, rfl, rfl, rfl, rfl, by kernel_rfl⟩ ⟨_, rfl, rfl, rfl, rfl, by kernel_rfl⟩ ⟨_, rfl, rfl, rfl, rfl, by kernel_rfl⟩ ⟨_, rfl, rfl, rfl, rfl, by kernel_rfl⟩ ⟨_, rfl, rfl, rfl, rfl, by kernel_rfl⟩ ⟨_, rfl, rfl, rfl, rfl, by kernel_rfl⟩ ⟨_, rfl, rfl, rfl, rfl, by kernel_rfl⟩ ⟨_, rfl, rfl, rfl, rfl, by kernel_rfl⟩ ⟨_, rfl, rfl, rfl, rfl, by kernel_rfl⟩ ⟨_, rfl, rfl, rfl, rfl, by kernel_rfl⟩ ⟨below_drew hbW2 ⟨1, rfl⟩, X2.out.carry fun _ _ h => h⟩ (run_field25_0 _) (fun W h => run_load22 h.2.c0) (fun W h => to_step hB hn hT h) (run_field25_1 _) (fun W h => run_load23 h.2.c1) (run_field25_2 _) (fun W h => run_load3 h.2.c2) (run_field25_3 _) (fun W h => run_load3 h.2.c3) (run_field25_4 _) (fun W h => run_load3 h.2.c4) (fun W xa xc XA XC h hb => grow_step (S := (fun W => Below w.heap.size w W ∧ Box W w.heap.size la n lc ra m rc Wd Ln St Pn)) (fun _ _ h hb => ⟨below_then h.1 hb, h.2.below hb⟩) hb (hG.below h.1) rl hR hn hT h) rfl (Nat.le_of_ble_eq_true rfl) ?_
      intro a WA hs hd hkp hS9 hval
      obtain ⟨ya, yc, Ar, Cr, e3, hc3, hB3⟩ := hval 16 3 (by decide) rfl
      obtain ⟨yb, yd, e4, hd4, hR4⟩ := hval 17 4 (by decide) rfl
      have e5 : a.tmps.getD 5 undef = _ := hval 18 5 (by decide) rfl
      have ep := frame_puts [24, 25, 26, 27, 28, 29, 30, 31, 32, 33, 34, 35, 23, 36, 37, 38, 3, 4, 5] hs hd (fun s h => hkp s (fun i hi e => h (by
        rcases (show i = 0 ∨ i = 1 ∨ i = 2 ∨ i = 3 ∨ i = 4 ∨ i = 5 ∨ i = 6 ∨ i = 7 ∨ i = 8 ∨ i = 9 ∨ i = 10 ∨ i = 11 ∨ i = 12 ∨ i = 13 ∨ i = 14 ∨ i = 15 ∨ i = 16 ∨ i = 17 ∨ i = 18 by omega) with rfl | rfl | rfl | rfl | rfl | rfl | rfl | rfl | rfl | rfl | rfl | rfl | rfl | rfl | rfl | rfl | rfl | rfl | rfl <;> (simp only [waD, Option.some.injEq] at e; subst e; simp))))
      simp only [List.foldl] at ep
      rw [e3] at ep
      rw [e4] at ep
      rw [e5] at ep
      have H9 := hidden_ hS9
      clear hs hd hkp hval hS9 e3 e4 e5
      generalize a.tmps.getD 24 undef = g24 at ep
      generalize a.tmps.getD 25 undef = g25 at ep
      generalize a.tmps.getD 26 undef = g26 at ep
      generalize a.tmps.getD 27 undef = g27 at ep
      generalize a.tmps.getD 28 undef = g28 at ep
      generalize a.tmps.getD 29 undef = g29 at ep
      generalize a.tmps.getD 30 undef = g30 at ep
      generalize a.tmps.getD 31 undef = g31 at ep
      generalize a.tmps.getD 32 undef = g32 at ep
      generalize a.tmps.getD 33 undef = g33 at ep
      generalize a.tmps.getD 34 undef = g34 at ep
      generalize a.tmps.getD 35 undef = g35 at ep
      generalize a.tmps.getD 23 undef = g23 at ep
      generalize a.tmps.getD 36 undef = g36 at ep
      generalize a.tmps.getD 37 undef = g37 at ep
      generalize a.tmps.getD 38 undef = g38 at ep
      simp only [Act.put, List.setIfInBounds_toArray, List.set_cons_succ, List.set_cons_zero] at ep
      subst ep
      obtain ⟨hb9, X9⟩ := H9.out
      have hB9 := hB.below hb9
      have hG9 := hG.below hb9
      clear H9 hB hG hbW1 hbW2 hb2 X2 hg le re wW wL wS wP bt br
      go_wp2
      refine wb_region w.heap.size n m la ra lc rc Wd Ln St (growE L n R m (Wd + 1)) (growL L n R m (Wd + 1) Ln St).length L (growB L (growL L n R m (Wd + 1) Ln St)) (growP (growL L n R m (Wd + 1) Ln St)) ((fun W => Below WA.heap.size WA W)) (by kernel_rfl) rfl ⟨_, rfl, rfl, rfl, rfl, by kernel_rfl⟩ ⟨_, rfl, rfl, rfl, rfl, by kernel_rfl⟩ ⟨_, rfl, rfl, rfl, rfl, by kernel_rfl⟩ ⟨_, rfl, rfl, rfl, rfl, by kernel_rfl⟩ ⟨_, rfl, rfl, rfl, rfl, by kernel_rfl⟩ ⟨_, rfl, rfl, rfl, rfl, by kernel_rfl⟩ ⟨_, rfl, rfl, rfl, rfl, by kernel_rfl⟩ ⟨_, rfl, rfl, rfl, rfl, by kernel_rfl⟩ ⟨_, rfl, rfl, rfl, rfl, by kernel_rfl⟩ ⟨_, rfl, rfl, rfl, rfl, by kernel_rfl⟩ ⟨_, rfl, rfl, rfl, rfl, by kernel_rfl⟩ ⟨_, rfl, rfl, rfl, rfl, by kernel_rfl⟩ ⟨_, rfl, rfl, rfl, rfl, by kernel_rfl⟩ ⟨_, rfl, rfl, rfl, rfl, by kernel_rfl⟩ ⟨_, rfl, rfl, rfl, rfl, by kernel_rfl⟩ ⟨_, rfl, rfl, rfl, rfl, by kernel_rfl⟩ ⟨_, rfl, rfl, rfl, rfl, by kernel_rfl⟩ ⟨_, rfl, rfl, rfl, rfl, by kernel_rfl⟩ ⟨_, rfl, rfl, rfl, rfl, by kernel_rfl⟩ ⟨_, rfl, rfl, rfl, rfl, by kernel_rfl⟩ (below_drew (Below.refl _ _) ⟨1, rfl⟩) (run_field25_0 _) (fun W h => run_load22 (X9.below h).c0) (fun W h => to_stepS (S := (fun W => Below WA.heap.size WA W)) (fun _ _ h hb => below_then h hb) lc (hB9.below h) hn hT h) (run_field25_1 _) (fun W h => run_load23 (X9.below h).c1) (run_field25_2 _) (fun W h => run_load3 (X9.below h).c2) (fun W => by have hw : IntKind.i64.wrap (Wd + 1) = Wd + 1 := (by rw [IntKind.wrap_i64]; omega); go_simp) (run_field25_3 _) (fun W h => run_load3 (X9.below h).c3) (run_field25_4 _) (fun W h => run_load3 (X9.below h).c4) (fun W xa xc XA XC h hb => grow_step (S := (fun W => Below WA.heap.size WA W)) (fun _ _ h hb => below_then h hb) hb (hG9.below h) rl hR hn hT h) rfl (Nat.le_of_ble_eq_true rfl) ?_
      intro a WB hs hd hkp hS9 hval
      obtain ⟨za, zc, Ar2, Cr2, e6, hc6, hB6⟩ := hval 17 6 (by decide) rfl
      obtain ⟨zb, zd, e7, hd7, hR7⟩ := hval 18 7 (by decide) rfl
      have e8 : a.tmps.getD 8 undef = _ := hval 19 8 (by decide) rfl
      have ep := frame_puts [40, 41, 42, 43, 44, 45, 46, 47, 48, 49, 50, 51, 52, 39, 53, 54, 55, 6, 7, 8] hs hd (fun s h => hkp s (fun i hi e => h (by
        rcases (show i = 0 ∨ i = 1 ∨ i = 2 ∨ i = 3 ∨ i = 4 ∨ i = 5 ∨ i = 6 ∨ i = 7 ∨ i = 8 ∨ i = 9 ∨ i = 10 ∨ i = 11 ∨ i = 12 ∨ i = 13 ∨ i = 14 ∨ i = 15 ∨ i = 16 ∨ i = 17 ∨ i = 18 ∨ i = 19 by omega) with rfl | rfl | rfl | rfl | rfl | rfl | rfl | rfl | rfl | rfl | rfl | rfl | rfl | rfl | rfl | rfl | rfl | rfl | rfl | rfl <;> (simp only [wbD, Option.some.injEq] at e; subst e; simp))))
      simp only [List.foldl] at ep
      rw [e6] at ep
      rw [e7] at ep
      rw [e8] at ep
      have H9 := hidden_ hS9
      clear hs hd hkp hval hS9 e6 e7 e8
      generalize a.tmps.getD 40 undef = g40 at ep
      generalize a.tmps.getD 41 undef = g41 at ep
      generalize a.tmps.getD 42 undef = g42 at ep
      generalize a.tmps.getD 43 undef = g43 at ep
      generalize a.tmps.getD 44 undef = g44 at ep
      generalize a.tmps.getD 45 undef = g45 at ep
      generalize a.tmps.getD 46 undef = g46 at ep
      generalize a.tmps.getD 47 undef = g47 at ep
      generalize a.tmps.getD 48 undef = g48 at ep
      generalize a.tmps.getD 49 undef = g49 at ep
      generalize a.tmps.getD 50 undef = g50 at ep
      generalize a.tmps.getD 51 undef = g51 at ep
      generalize a.tmps.getD 52 undef = g52 at ep
      generalize a.tmps.getD 39 undef = g39 at ep
      generalize a.tmps.getD 53 undef = g53 at ep
      generalize a.tmps.getD 54 undef = g54 at ep
      generalize a.tmps.getD 55 undef = g55 at ep
      simp only [Act.put, List.setIfInBounds_toArray, List.set_cons_succ, List.set_cons_zero] at ep
      subst ep
      have hbB : Below WA.heap.size WA WB := H9.out
      clear H9
      obtain ⟨eE, hQ, hat⟩ := wide_plain (L := L) (n := n) (R := R) (m := m) (width := Wd) Ln St hW1 hW2
      have hnil : growE L n R m Wd ≠ 0 → growL L n R m Wd Ln St = [] := fun hE => by unfold growL; rw [if_neg hE]
      have hlen := fun hE => growL_len (L := L) (n := n) (R := R) (m := m) (width := Wd + 1) Ln St hE
      rw [eE] at hlen ⊢
      have hA1 : BmAt WB ya (growL L n R m Wd Ln St).length Ar Cr (growB L (growL L n R m Wd Ln St)) := (hB3.below hbB).1
      have hA2 : BmAt WB za (growL L n R m Wd Ln St).length Ar2 Cr2 (growB L (growL L n R m Wd Ln St)) := (hB6.1.less hQ).congr (fun _ _ => rfl) (fun _ _ => rfl) (fun r hr => by unfold growB; rw [hat r hr])
      have hP1 : Reads .i64 WB yb (growL L n R m Wd Ln St).length (growP (growL L n R m Wd Ln St)) := hR4.below hbB
      have hP2 : Reads .i64 WB zb (growL L n R m Wd Ln St).length (growP (growL L n R m Wd Ln St)) := by
        have h1 := hR7.front (m := (growL L n R m Wd Ln St).length) hQ
        have e : (growP (growL L n R m (Wd + 1) Ln St)).take (growL L n R m Wd Ln St).length = growP (growL L n R m Wd Ln St) := by
          have hl := h1.len
          refine List.ext_getElem (by rw [hl]; simp [growP]) (fun i h2 h3 => ?_)
          have hi : i < (growL L n R m Wd Ln St).length := by simpa [growP] using h3
          have e1 := growP_at _ hi
          have e2 := growP_at _ (Nat.lt_of_lt_of_le hi hQ)
          rw [hat i hi] at e2
          have e3 : (growP (growL L n R m Wd Ln St)).getD i 0 = (growP (growL L n R m Wd Ln St))[i] := by simp [List.getD, h3]
          have e4 : (growP (growL L n R m (Wd + 1) Ln St)).getD i 0 = ((growP (growL L n R m (Wd + 1) Ln St)).take (growL L n R m Wd Ln St).length)[i] := by
            have : i < (growP (growL L n R m (Wd + 1) Ln St)).length := by simp [growP]; omega
            simp [List.getD, this]
          rw [← e3, ← e4, e1, e2]
        rw [e] at h1
        exact h1
      have hb10 := below_then hb9 hbB
      obtain ⟨EC, eEC⟩ : ∃ e, growE L n R m Wd = e := ⟨_, rfl⟩
      obtain ⟨G, eG⟩ : ∃ G, growL L n R m Wd Ln St = G := ⟨_, rfl⟩
      obtain ⟨G2, eG2⟩ : ∃ G, growL L n R m (Wd + 1) Ln St = G := ⟨_, rfl⟩
      simp only [eEC, eG, eG2] at hlen hnil hA1 hA2 hP1 hP2 hQ hc3 hd4 hc6 hd7 ⊢
      clear eEC eG eG2 hB3 hR4 hB6 hR7 hat hbB X9 hB9 hG9 hT hR eE hg2 hg3
      by_cases hE : EC = 0
      · subst hE
        obtain ⟨-, hl2⟩ := hlen rfl
        obtain ⟨QN, eQ⟩ : ∃ q, G.length = q := ⟨_, rfl⟩
        obtain ⟨QM, eM⟩ : ∃ q, G2.length = q := ⟨_, rfl⟩
        simp only [eQ, eM] at hA1 hA2 hP1 hP2 hQ hc3 hd4 hc6 hd7 hl2 ⊢
        clear eQ eM hlen hnil
        go_wp2
        refine wc_region QN QM yc yd zc zd ya yb za zb (growB L G) ((fun W => Below WB.heap.size WB W)) (by kernel_rfl) rfl ⟨_, rfl, rfl, rfl, rfl, by kernel_rfl⟩ ⟨_, rfl, rfl, rfl, rfl, by kernel_rfl⟩ ⟨_, rfl, rfl, rfl, rfl, by kernel_rfl⟩ ⟨_, rfl, rfl, rfl, rfl, by kernel_rfl⟩ ⟨_, rfl, rfl, rfl, rfl, by kernel_rfl⟩ ⟨_, rfl, rfl, rfl, rfl, by kernel_rfl⟩ ⟨_, rfl, rfl, rfl, rfl, by kernel_rfl⟩ ⟨_, rfl, rfl, rfl, rfl, by kernel_rfl⟩ ⟨_, rfl, rfl, rfl, rfl, by kernel_rfl⟩ ⟨_, rfl, rfl, rfl, rfl, by kernel_rfl⟩ ⟨_, rfl, rfl, rfl, rfl, by kernel_rfl⟩ ⟨_, rfl, rfl, rfl, rfl, by kernel_rfl⟩ ⟨_, rfl, rfl, rfl, rfl, by kernel_rfl⟩ ⟨_, rfl, rfl, rfl, rfl, by kernel_rfl⟩ ⟨_, rfl, rfl, rfl, rfl, by kernel_rfl⟩ ⟨_, rfl, rfl, rfl, rfl, by kernel_rfl⟩ ⟨_, rfl, rfl, rfl, rfl, by kernel_rfl⟩ ⟨_, rfl, rfl, rfl, rfl, by kernel_rfl⟩ ⟨_, rfl, rfl, rfl, rfl, by kernel_rfl⟩ ⟨_, rfl, rfl, rfl, rfl, by kernel_rfl⟩ ⟨_, rfl, rfl, rfl, rfl, by kernel_rfl⟩ ⟨_, rfl, rfl, rfl, rfl, by kernel_rfl⟩ ⟨_, rfl, rfl, rfl, rfl, by kernel_rfl⟩ ⟨_, rfl, rfl, rfl, rfl, by kernel_rfl⟩ ⟨_, rfl, rfl, rfl, rfl, by kernel_rfl⟩ ⟨_, rfl, rfl, rfl, rfl, by kernel_rfl⟩ ⟨_, rfl, rfl, rfl, rfl, by kernel_rfl⟩ ⟨_, rfl, rfl, rfl, rfl, by kernel_rfl⟩ ⟨_, rfl, rfl, rfl, rfl, by kernel_rfl⟩ ⟨_, rfl, rfl, rfl, rfl, by kernel_rfl⟩ ⟨_, rfl, rfl, rfl, rfl, by kernel_rfl⟩ ⟨_, rfl, rfl, rfl, rfl, by kernel_rfl⟩ ⟨_, rfl, rfl, rfl, rfl, by kernel_rfl⟩ ⟨_, rfl, rfl, rfl, rfl, by kernel_rfl⟩ ⟨_, rfl, rfl, rfl, rfl, by kernel_rfl⟩ (below_drew (Below.refl _ _) ⟨1, rfl⟩) (run_eql30 _) (run_geq3t _ _ (by omega)) (run_eql3 _) (fun W h => from_stepS (S := (fun W => Below WB.heap.size WB W)) (fun _ _ h hb => below_then h hb) yc (hA1.below h) (by omega) h) (run_cut27 za QM zc QN hQ hc6) (fun W h => from_stepS (S := (fun W => Below WB.heap.size WB W)) (fun _ _ h hb => below_then h hb) zc (hA2.below h) (by omega) h) (fun W xa xc XA XC xb xd XB XD h h1 h2 => sameB_stepS (S := (fun W => Below WB.heap.size WB W)) (fun _ _ h hb => below_then h hb) xc xd h1 h2 h) (run_cut29 zb QM zd QN hQ hd7) (fun W h => sameI_stepS (S := (fun W => Below WB.heap.size WB W)) (fun _ _ h hb => below_then h hb) yd zd (hP1.below h) (hP2.below h) h) rfl rfl rfl rfl rfl (Nat.le_of_ble_eq_true rfl) ?_
        intro a WC hs hd hkp hS9 hval
        have e2 : a.tmps.getD 2 undef = .bool true := hval 34 2 (by decide) rfl
        have ep := frame_puts [61, 62, 63, 64, 65, 66, 67, 68, 69, 70, 71, 72, 73, 74, 75, 76, 77, 78, 79, 80, 81, 82, 83, 84, 85, 86, 87, 88, 89, 90, 91, 92, 93, 94, 2] hs hd (fun s h => hkp s (fun i hi e => h (by
          rcases (show i = 0 ∨ i = 1 ∨ i = 2 ∨ i = 3 ∨ i = 4 ∨ i = 5 ∨ i = 6 ∨ i = 7 ∨ i = 8 ∨ i = 9 ∨ i = 10 ∨ i = 11 ∨ i = 12 ∨ i = 13 ∨ i = 14 ∨ i = 15 ∨ i = 16 ∨ i = 17 ∨ i = 18 ∨ i = 19 ∨ i = 20 ∨ i = 21 ∨ i = 22 ∨ i = 23 ∨ i = 24 ∨ i = 25 ∨ i = 26 ∨ i = 27 ∨ i = 28 ∨ i = 29 ∨ i = 30 ∨ i = 31 ∨ i = 32 ∨ i = 33 ∨ i = 34 by omega) with rfl | rfl | rfl | rfl | rfl | rfl | rfl | rfl | rfl | rfl | rfl | rfl | rfl | rfl | rfl | rfl | rfl | rfl | rfl | rfl | rfl | rfl | rfl | rfl | rfl | rfl | rfl | rfl | rfl | rfl | rfl | rfl | rfl | rfl | rfl <;> (simp only [wcD, Option.some.injEq] at e; subst e; simp))))
        simp only [List.foldl] at ep
        rw [e2] at ep
        have H9 := hidden_ hS9
        clear hs hd hkp hval hS9 e2
        generalize a.tmps.getD 61 undef = g61 at ep
        generalize a.tmps.getD 62 undef = g62 at ep
        generalize a.tmps.getD 63 undef = g63 at ep
        generalize a.tmps.getD 64 undef = g64 at ep
        generalize a.tmps.getD 65 undef = g65 at ep
        generalize a.tmps.getD 66 undef = g66 at ep
        generalize a.tmps.getD 67 undef = g67 at ep
        generalize a.tmps.getD 68 undef = g68 at ep
        generalize a.tmps.getD 69 undef = g69 at ep
        generalize a.tmps.getD 70 undef = g70 at ep
        generalize a.tmps.getD 71 undef = g71 at ep
        generalize a.tmps.getD 72 undef = g72 at ep
        generalize a.tmps.getD 73 undef = g73 at ep
        generalize a.tmps.getD 74 undef = g74 at ep
        generalize a.tmps.getD 75 undef = g75 at ep
        generalize a.tmps.getD 76 undef = g76 at ep
        generalize a.tmps.getD 77 undef = g77 at ep
        generalize a.tmps.getD 78 undef = g78 at ep
        generalize a.tmps.getD 79 undef = g79 at ep
        generalize a.tmps.getD 80 undef = g80 at ep
        generalize a.tmps.getD 81 undef = g81 at ep
        generalize a.tmps.getD 82 undef = g82 at ep
        generalize a.tmps.getD 83 undef = g83 at ep
        generalize a.tmps.getD 84 undef = g84 at ep
        generalize a.tmps.getD 85 undef = g85 at ep
        generalize a.tmps.getD 86 undef = g86 at ep
        generalize a.tmps.getD 87 undef = g87 at ep
        generalize a.tmps.getD 88 undef = g88 at ep
        generalize a.tmps.getD 89 undef = g89 at ep
        generalize a.tmps.getD 90 undef = g90 at ep
        generalize a.tmps.getD 91 undef = g91 at ep
        generalize a.tmps.getD 92 undef = g92 at ep
        generalize a.tmps.getD 93 undef = g93 at ep
        generalize a.tmps.getD 94 undef = g94 at ep
        simp only [Act.put, List.setIfInBounds_toArray, List.set_cons_succ, List.set_cons_zero] at ep
        subst ep
        have hb11 : Below WB.heap.size WB WC := H9.out
        clear H9
        go_wp2
        go_ret
        exact ⟨rfl, below_then hb10 hb11⟩
      · have hE2 : (EC == 0) = false := by simp [hE]
        have hE3 : (EC != 0) = true := by simp [hE]
        clear hE hnil hlen hA1 hA2 hP1 hP2
        go_wp2
        go_ret
        exact ⟨rfl, hb10⟩
  · by_cases hW1 : Wd < 1
    · go_enter Try.func6, Try.ntmps6
      go_wp2_with (first
        | (go_at_call 19; refine (works_call _).mono ?_; rintro e W1 ⟨rfl, hb1⟩
           have X1 : Hid (Box W1 w.heap.size la n lc ra m rc Wd Ln St Pn) := X0.out.below hb1
           have hbW1 := below_then (below_new (Below.refl w.heap.size w) _) hb1
           obtain ⟨q0, q1, q2, q3, q4, q5⟩ := X1.out
           clear hb1 X0)
        | (go_at_call 8; refine (kg _ hbW1).mono ?_; rintro e W2 ⟨⟨g, rfl, hg⟩, hb2⟩
           have X2 : Hid (Box W2 w.heap.size la n lc ra m rc Wd Ln St Pn) := X1.out.below hb2
           have hbW2 := below_then hbW1 hb2
           obtain ⟨q0, q1, q2, q3, q4, q5⟩ := X2.out
           clear X1 kg))
      all_goals (
        go_ret
        exact ⟨rfl, hbW2⟩)
    · have hW2 : 3 < Wd := by omega
      go_enter Try.func6, Try.ntmps6
      go_wp2_with (first
        | (go_at_call 19; refine (works_call _).mono ?_; rintro e W1 ⟨rfl, hb1⟩
           have X1 : Hid (Box W1 w.heap.size la n lc ra m rc Wd Ln St Pn) := X0.out.below hb1
           have hbW1 := below_then (below_new (Below.refl w.heap.size w) _) hb1
           obtain ⟨q0, q1, q2, q3, q4, q5⟩ := X1.out
           clear hb1 X0)
        | (go_at_call 8; refine (kg _ hbW1).mono ?_; rintro e W2 ⟨⟨g, rfl, hg⟩, hb2⟩
           have X2 : Hid (Box W2 w.heap.size la n lc ra m rc Wd Ln St Pn) := X1.out.below hb2
           have hbW2 := below_then hbW1 hb2
           obtain ⟨q0, q1, q2, q3, q4, q5⟩ := X2.out
           clear X1 kg))
      all_goals (
        go_ret
        exact ⟨rfl, hbW2⟩)

theorem contract (H : Type) (enc : TypeId × Value → H) (W : World) (base : Nat) (args : Array Value) (ds gs : List (DataW H)) (before : List MemPlace)
    (hval0 : ∀ (j : Nat) t v, Try.f6.params[j]? = some t → args[j]? = some v → Value.okWide Try.prog W .any base t v)
    (hW : DataW.Whole enc Try.prog Try.f6.params.toList Rows.beamWideSpec.vars false W args.toList ds gs before)
    (hsz0 : (DataW.weightsEach Try.prog (Try.f6.params.toList ++ Rows.beamWideSpec.plain.varTypes Try.prog) (ds ++ gs)).all (· ≤ reachBytes) = true) :
    Calls Try.prog 6 args W fun e W' => ∃ v, e = .returned v ∧ Rows.beamWideSpec.post enc Try.prog Try.f6 false true false false W args v W' := by
  have hval : ∀ (j : Nat) t v, Try.f6.params[j]? = some t → args[j]? = some v → Value.okWide Try.prog W .any base t v := hval0
  have hW' := hW
  obtain ⟨p, q, hA0, hV, rfl, hfz, hnd⟩ := hW
  have hA : DataW.TrodAll enc Try.prog W 0 (fun _ => true) true Try.f6.params.toList args.toList ds p := hA0
  have hsz : (DataW.weightsEach Try.prog (Try.f6.params.toList ++ Rows.beamWideSpec.plain.varTypes Try.prog) (ds ++ gs)).all (· ≤ reachBytes) = true := hsz0
  rw [Try.params6] at hA hval hsz
  obtain ⟨v0, vs0, d0, ds0, p0, q0, hargs, rfl, rfl, h0, r0⟩ := trodAll_cons hA
  obtain ⟨rfl, rfl, rfl⟩ := trodAll_nil r0
  obtain rfl : args = #[v0] := by cases args; simp_all
  obtain ⟨rfl, rfl⟩ := trodVars_none hV
  have k0 := h0
  have lt0 : ∀ x ∈ p0, x.block < W.heap.size := by obtain ⟨m, hm⟩ := k0; exact DataW.trod_lt m _ _ _ hm
  obtain ⟨C0, rfl, s0⟩ := open_bcase (hval 0 25 v0 rfl rfl) h0
  have w0 : CsAt W C0 := s0 fun q hq => of_decide_eq_true (List.all_eq_true.1 hsz q (DataW.weights_mem_each (j := 0) rfl rfl q hq))
  clear hA0 hval0
  refine (walk C0 W w0).mono fun e W' ⟨he, bel⟩ => ?_
  subst he
  exact ⟨_, rfl, _, _, _, [], _, [], hW', trodAll_mk1 (shut_bool Try.underlying4 _), (trodAll_cons_mk (Below.trod laidOut (by kernel_rfl) (of_decide_eq_true (by kernel_rfl)) k0 bel lt0) trodAll_mk0), rfl, bel.frame _, fun h => by cases h⟩

set_option maxRecDepth 100000 in
theorem lifted (os : Os) (started : os.Started) (H : Type) (enc : TypeId × Value → H) :
    ReturnsInHanded {} Try.checked os 6 .any (Rows.beamWideSpec.pre6 enc Try.prog Try.f6 Rows.beamWideRow.domain false) (Rows.beamWideSpec.post enc Try.prog Try.f6 false true false false) := by
  refine returnsInHanded_of_change_sized (C := Try.checked) own started (by kernel_rfl) Try.func6
    (ChangeSpec.witness6 (enc := enc) (C := Try.checked) false ⟨#[], #[.agg #[.slice none 0 0, .slice none 0 0, .int .i64 0, .int .i64 0, .int .i64 0, .int .i64 0]], []⟩ 8 (by kernel_rfl) (by kernel_rfl) (by kernel_rfl) (by kernel_rfl)) ?_
  intro W base args ds gs before hval hW _ hsz _
  exact contract H enc W base args ds gs before hval hW hsz

theorem over : Rows.beamWideRow.holds Try.pinned (OpenSpec.ofChange Rows.beamWideSpec) :=
  OpenClaim.holds_of_wide 6 Try.f6 rfl rfl rfl rfl rfl rfl rfl ⟨rfl, rfl, rfl, rfl, rfl⟩ rfl rfl rfl rfl rfl (by kernel_rfl) Try.func6 (by kernel_rfl)
    (of_decide_eq_true (by kernel_rfl)) (by unfold Func.isWrapper; first | (rw [if_pos (by decide +kernel)]; kernel_rfl) | (rw [if_neg (by decide +kernel)]; exact ⟨rfl, rfl⟩))
    (fun os started H enc _ => lifted os started H enc)

theorem proved : Rows.BeamWideSaid :=
  over
#print axioms proved
end Go.Proofs.Yteeljnibglnflaa.beamWide
