/- For every case of beams and rows of scores the Go function BeamOrder returns true (scores do not rise; each beam is the one behind which it stands, as it was, if that was done, else with one token more, in cases of fewer than two hundred beams, tokens and scores) and leaves its arguments as they were; no condition. -/
import Derived.Test.YteeljnibglnflaaRows
import Derived.Test.YteeljnibglnflaaView
import Derived.Test.YteeljnibglnflaaOwn
import Derived.Test.YteeljnibglnflaaWhere
import Derived.Test.YteeljnibglnflaaWorks
import Derived.Test.YteeljnibglnflaaSteps
import Derived.Test.YteeljnibglnflaaSat
import Derived.Test.YteeljnibglnflaaSatRef
import Derived.Test.YteeljnibglnflaaRanks
import Derived.Test.YteeljnibglnflaaRank
import Derived.Test.YteeljnibglnflaaRefTop
import Derived.Test.YteeljnibglnflaaGSameI
import Derived.Test.YteeljnibglnflaaGMean
import Derived.Test.YteeljnibglnflaaBmZ
import Derived.Test.YteeljnibglnflaaBmAt
import Derived.Test.YteeljnibglnflaaBmFin
import Derived.Test.YteeljnibglnflaaBmFits
import Derived.Test.YteeljnibglnflaaBmWhole
import Derived.Test.YteeljnibglnflaaBmCd
import Derived.Test.YteeljnibglnflaaBmCand
import Derived.Test.YteeljnibglnflaaBmGI
import Derived.Test.YteeljnibglnflaaBmGrow
import Derived.Test.YteeljnibglnflaaBmReg
import Derived.Test.YteeljnibglnflaaBmRun
import Derived.Test.YteeljnibglnflaaBmTo
import Derived.Test.YteeljnibglnflaaBmSame
import Derived.Test.YteeljnibglnflaaBmBest
import Derived.Test.YteeljnibglnflaaBmGreat
import Derived.Test.YteeljnibglnflaaBmWorks
import Derived.Test.YteeljnibglnflaaBmCase
import Derived.Test.YteeljnibglnflaaBmOrdZ
import Derived.Test.YteeljnibglnflaaBmBox
import Derived.Test.YteeljnibglnflaaBmBoxR
import Derived.Test.YteeljnibglnflaaBmRegG
import Derived.Test.YteeljnibglnflaaBmRunO
import Derived.Test.YteeljnibglnflaaBmRegO
import Derived.Test.YteeljnibglnflaaGInvIn
import Derived.WalkKit
import Derived.ProofKit
import Derived.OpenShut
import Derived.ChangeOld
import Derived.Below
import Derived.WalkLawsBesides
import Derived.ChangeMaps5
import Derived.Laws.OwnMore
import Derived.Deep.QuietTactic
import Derived.BigQuiet
import Derived.Laws.AppendOwnNone
import Derived.SizedLaws
namespace Go.Proofs.Yteeljnibglnflaa.beamOrder
set_option maxRecDepth 20000
open Go.ChangeShapes Go.WideShapes Go.ChangeAt Go.RowKit
set_option linter.unusedVariables false
set_option linter.unusedSimpArgs false

theorem own : ownKnob Try.prog.godebug = none := by kernel_rfl
theorem laidOut : laidOutB Try.prog = true := by kernel_rfl



set_option maxHeartbeats 4000000 in
set_option maxRecDepth 20000 in
theorem walk (C0 : CsV) (w : World) (w0 : CsAt w C0) :
    Calls Try.prog 4 #[C0.v] w fun e w' => e = .returned (.bool true) ∧ Below w.heap.size w w' := by
  obtain ⟨la, n, lc, A, C, L, ra, m, rc, A1, C1, R, Wd, Ln, St, Pn⟩ := C0
  obtain ⟨hB, le, ll, hG, re, rl, wW, wL, wS, wP, bn, bt, br⟩ := w0
  dsimp only [CsV.v] at *
  have kg := fun W hb => great_call la n lc A C L ra m rc A1 C1 R Wd Ln St Pn W (hB.below hb) (hG.below hb) (by omega) (fun r hr => by have := bt r hr; omega) (fun r hr => by have := br r hr; omega)
  have X0 : Hid (Box _ w.heap.size la n lc ra m rc Wd Ln St Pn) := Box.new w la n lc ra m rc Wd Ln St Pn
  go_enter Try.func4, Try.ntmps4
  go_wp2_with (first
    | (go_at_call 19; refine (works_call _).mono ?_; rintro e W1 ⟨rfl, hb1⟩
       have X1 : Hid (Box W1 w.heap.size la n lc ra m rc Wd Ln St Pn) := X0.out.below hb1
       have hbW1 := below_then (below_new (Below.refl w.heap.size w) _) hb1
       obtain ⟨q0, q1, q2, q3, q4, q5⟩ := X1.out
       clear hb1 X0)
    | (go_at_call 8; refine (kg _ hbW1).mono ?_; rintro e W2 ⟨⟨g, rfl, hg⟩, hb2⟩
       have X2 : Hid (Box W2 w.heap.size la n lc ra m rc Wd Ln St Pn) := X1.out.below hb2
       have hbW2 := below_then hbW1 hb2
       clear q0 q1 q2 q3 q4 q5 X1 kg))
  · go_ret
    exact ⟨rfl, hbW2⟩
  · obtain ⟨hg1, hg2, hg3⟩ := hg (by first | rfl | assumption | simp_all)
    have hn : n ≤ 1000 := by omega
    have hT : ∀ r, r < n → (L r).t.length ≤ 1000000 := fun r hr => by have := hg2 r hr; omega
    have hR : ∀ r, r < m → (R r).length ≤ 1000 := fun r hr => by have := hg3 r hr; omega
    refine og_region w.heap.size n m la ra lc rc Wd Ln St (growE L n R m Wd) (growL L n R m Wd Ln St).length L (growB L (growL L n R m Wd Ln St)) (growP (growL L n R m Wd Ln St)) ((fun W => Below w.heap.size w W ∧ Box W w.heap.size la n lc ra m rc Wd Ln St Pn)) (by kernel_rfl) rfl ⟨_, rfl, rfl, rfl, rfl, by kernel_rfl⟩ ⟨_, rfl, rfl, rfl, rfl, by kernel_rfl⟩ ⟨_, rfl, rfl, rfl, rfl, by kernel_rfl⟩ ⟨_, rfl, rfl, rfl, rfl, by kernel_rfl⟩ ⟨_, rfl, rfl, rfl, rfl, by kernel_rfl⟩ ⟨_, rfl, rfl, rfl, rfl, by kernel_rfl⟩ ⟨_, rfl, rfl, rfl, rfl, by kernel_rfl⟩ ⟨_, rfl, rfl, rfl, rfl, by kernel_rfl⟩ ⟨_, rfl, rfl, rfl, rfl, by kernel_rfl⟩ ⟨_, rfl, rfl, rfl, rfl, by kernel_rfl⟩ ⟨_, rfl, rfl, rfl, rfl, by kernel_rfl⟩ ⟨_, rfl, rfl, rfl, rfl, by kernel_rfl⟩ ⟨_, rfl, rfl, rfl, rfl, by kernel_rfl⟩ ⟨_, rfl, rfl, rfl, rfl, by kernel_rfl⟩ ⟨_, rfl, rfl, rfl, rfl, by kernel_rfl⟩ ⟨_, rfl, rfl, rfl, rfl, by kernel_rfl⟩ ⟨_, rfl, rfl, rfl, rfl, by kernel_rfl⟩ ⟨_, rfl, rfl, rfl, rfl, by kernel_rfl⟩ ⟨_, rfl, rfl, rfl, rfl, by kernel_rfl⟩ ⟨below_drew hbW2 ⟨1, rfl⟩, X2.out.carry fun _ _ h => h⟩ (run_field25_0 _) (fun W h => run_load22 h.2.c0) (fun W h => to_step hB hn hT h) (run_field25_1 _) (fun W h => run_load23 h.2.c1) (run_field25_2 _) (fun W h => run_load3 h.2.c2) (run_field25_3 _) (fun W h => run_load3 h.2.c3) (run_field25_4 _) (fun W h => run_load3 h.2.c4) (fun W xa xc XA XC h hb => grow_step (S := (fun W => Below w.heap.size w W ∧ Box W w.heap.size la n lc ra m rc Wd Ln St Pn)) (fun _ _ h hb => ⟨below_then h.1 hb, h.2.below hb⟩) hb (hG.below h.1) rl hR hn hT h) rfl (Nat.le_of_ble_eq_true rfl) ?_
    intro a WA hs hd hkp hS9 hval
    obtain ⟨ya, yc, Ar, Cr, e3, hc3, hB3⟩ := hval 16 3 (by decide) rfl
    obtain ⟨yb, yd, e4, hd4, hR4⟩ := hval 17 4 (by decide) rfl
    have e5 : a.tmps.getD 5 undef = _ := hval 18 5 (by decide) rfl
    have ep := frame_puts [14, 15, 16, 17, 18, 19, 20, 21, 22, 23, 24, 25, 13, 26, 27, 28, 3, 4, 5] hs hd (fun s h => hkp s (fun i hi e => h (by
      rcases (show i = 0 ∨ i = 1 ∨ i = 2 ∨ i = 3 ∨ i = 4 ∨ i = 5 ∨ i = 6 ∨ i = 7 ∨ i = 8 ∨ i = 9 ∨ i = 10 ∨ i = 11 ∨ i = 12 ∨ i = 13 ∨ i = 14 ∨ i = 15 ∨ i = 16 ∨ i = 17 ∨ i = 18 by omega) with rfl | rfl | rfl | rfl | rfl | rfl | rfl | rfl | rfl | rfl | rfl | rfl | rfl | rfl | rfl | rfl | rfl | rfl | rfl <;> (simp only [ogD, Option.some.injEq] at e; subst e; simp))))
    simp only [List.foldl] at ep
    rw [e3] at ep
    rw [e4] at ep
    rw [e5] at ep
    have H9 := hidden_ hS9
    clear hs hd hkp hval hS9 e3 e4 e5
    generalize a.tmps.getD 14 undef = g14 at ep
    generalize a.tmps.getD 15 undef = g15 at ep
    generalize a.tmps.getD 16 undef = g16 at ep
    generalize a.tmps.getD 17 undef = g17 at ep
    generalize a.tmps.getD 18 undef = g18 at ep
    generalize a.tmps.getD 19 undef = g19 at ep
    generalize a.tmps.getD 20 undef = g20 at ep
    generalize a.tmps.getD 21 undef = g21 at ep
    generalize a.tmps.getD 22 undef = g22 at ep
    generalize a.tmps.getD 23 undef = g23 at ep
    generalize a.tmps.getD 24 undef = g24 at ep
    generalize a.tmps.getD 25 undef = g25 at ep
    generalize a.tmps.getD 13 undef = g13 at ep
    generalize a.tmps.getD 26 undef = g26 at ep
    generalize a.tmps.getD 27 undef = g27 at ep
    generalize a.tmps.getD 28 undef = g28 at ep
    simp only [Act.put, List.setIfInBounds_toArray, List.set_cons_succ, List.set_cons_zero] at ep
    subst ep
    obtain ⟨hb9, X9⟩ := H9.out
    have HB9 : Hid (BmAt WA la n A C L) := hB.below hb9
    have HX9 : Hid (Box WA w.heap.size la n lc ra m rc Wd Ln St Pn) := X9
    clear H9 hB hG X9 hbW1 hbW2 hb2 X2 hT hR hg le re wW wL wS wP bt br
    have HO := fun hE i hi => ord_plain (L := L) (n := n) (R := R) (m := m) (width := Wd) Ln St (i := i) hE hi
    have hlen := fun hE => growL_len (L := L) (n := n) (R := R) (m := m) (width := Wd) Ln St hE
    have hnil : growE L n R m Wd ≠ 0 → growL L n R m Wd Ln St = [] := fun hE => by unfold growL; rw [if_neg hE]
    have hwd := fun hE => growE_ok (L := L) (n := n) (R := R) (m := m) (width := Wd) hE
    obtain ⟨EC, eEC⟩ : ∃ e, growE L n R m Wd = e := ⟨_, rfl⟩
    obtain ⟨G, eG⟩ : ∃ G, growL L n R m Wd Ln St = G := ⟨_, rfl⟩
    simp only [eEC, eG] at HO hlen hnil hwd hB3 hR4 hc3 hd4 ⊢
    clear eEC eG
    by_cases hE : EC = 0
    · subst hE
      have HO' : Hid _ := HO rfl
      obtain ⟨hl1, hl2⟩ := hlen rfl
      obtain ⟨hw1, hw2, hn0, -, -⟩ := hwd rfl
      clear HO hlen hnil hwd
      have GP := fun i hi => growP_at G (i := i) hi
      obtain ⟨QN, eQ⟩ : ∃ q, G.length = q := ⟨_, rfl⟩
      rw [eQ] at HO' hl1 hl2 hB3 hR4 hc3 hd4 GP ⊢
      clear eQ
      have HGP : Hid _ := GP
      have HB3 : Hid (BmC WA ya QN Ar Cr (growB L G)) := hB3
      have HR4 : Hid (Reads .i64 WA yb QN (growP G)) := hR4
      obtain ⟨x3, rfl⟩ := hB3.1.some_ (by omega)
      obtain ⟨x4, rfl⟩ := hR4.some_ (by omega)
      obtain ⟨xl, rfl⟩ := HB9.out.some_ hn0
      obtain ⟨q0, q1, q2, q3, q4, q5⟩ := HX9.out
      have hm3 : QN ≤ 4 := by omega
      clear GP hB3 hR4 hc3 hd4
      go_wp2
      clear q0 q1 q2 q3 q4 q5
      go_loopw [6] (fun s wr => ∃ k : Nat, k ≤ QN ∧ s = .int .i64 k ∧ Below WA.heap.size WA wr) (fun s _ => QN - (intOf s).toNat)
      case atStart => exact ⟨0, Nat.zero_le _, rfl, Below.refl _ _⟩
      case round =>
        obtain ⟨k, hk, rfl, hbr⟩ := hrel
        by_cases hlt : k < QN
        · obtain ⟨p1, p2, p3, p4⟩ := HO'.out k hlt
          obtain ⟨y, ey, d0, d1, d2⟩ := (HB3.out.below hbr).1.at3 (r := k) hlt
          have rd := (HB3.out.below hbr).1.row k hlt
          have cap := HB3.out.2 k hlt
          have cp := (HR4.out.below hbr).cell x4 rfl k hlt
          rw [HGP.out k hlt] at cp
          have eb : growB L G k = wholeZ L (G.getD k c0) := rfl
          rw [eb] at d0 d1 d2 rd cap
          obtain ⟨c, ec⟩ : ∃ c, G.getD k c0 = c := ⟨_, rfl⟩
          rw [ec] at p1 p2 p3 p4 cp d0 d1 d2 rd cap
          obtain ⟨z, ez, f0, f1, f2⟩ := (HB9.out.below hbr).at3 (r := c.p) p1
          have rz := (HB9.out.below hbr).row c.p p1
          obtain ⟨q0, q1, q2, q3, q4, q5⟩ := HX9.out.below hbr
          have tz := hg2 c.p p1
          obtain ⟨P, eP⟩ : ∃ P, c.p = P := ⟨_, rfl⟩
          have ew : wholeZ L c = ⟨(L P).t ++ (if c.k = -1 then [] else [c.k]), c.s, c.f⟩ := by unfold wholeZ; rw [eP]
          rw [ew] at d0 d1 d2 rd cap
          rw [eP] at p1 p3 p4 cp ez f0 f1 f2 rz tz
          dsimp only at d0 d1 d2 rd cap
          obtain ⟨S, eS⟩ : ∃ S, c.s = S := ⟨_, rfl⟩
          obtain ⟨F, eF⟩ : ∃ F, c.f = F := ⟨_, rfl⟩
          obtain ⟨K, eK⟩ : ∃ K, c.k = K := ⟨_, rfl⟩
          simp only [eS, eF, eK] at d0 d1 d2 rd p2 p3 p4 cap
          clear ec eP ew eS eF eK eb
          obtain ⟨TT, eTT⟩ : ∃ T, (L P).t ++ (if K = -1 then [] else [K]) = T := ⟨_, rfl⟩
          rw [eTT] at d0 rd cap
          obtain ⟨TN, eTN⟩ : ∃ T, TT.length = T := ⟨_, rfl⟩
          rw [eTN] at d0 rd cap
          obtain ⟨LT, eLT⟩ : ∃ T, (L P).t = T := ⟨_, rfl⟩
          rw [eLT] at f0 rz tz p4 eTT
          obtain ⟨LN, eLN⟩ : ∃ T, LT.length = T := ⟨_, rfl⟩
          rw [eLN] at f0 rz tz p4
          obtain ⟨LS, eLS⟩ : ∃ T, (L P).s = T := ⟨_, rfl⟩
          rw [eLS] at f1 p3 p4
          obtain ⟨LF, eLF⟩ : ∃ T, (L P).f = T := ⟨_, rfl⟩
          rw [eLF] at f2 p3 p4
          clear eLF eLS eLT
          have HTT : Hid (LT ++ (if K = -1 then [] else [K]) = TT ∧ TT.length = TN ∧ LT.length = LN) := ⟨eTT, eTN, eLN⟩
          clear eTT eTN eLN
          obtain ⟨AK, eAK⟩ : ∃ x, Ar k = x := ⟨_, rfl⟩
          obtain ⟨CK, eCK⟩ : ∃ x, Cr k = x := ⟨_, rfl⟩
          obtain ⟨AP, eAP⟩ : ∃ x, A P = x := ⟨_, rfl⟩
          obtain ⟨CP, eCP⟩ : ∃ x, C P = x := ⟨_, rfl⟩
          rw [eAK, eCK] at d0
          rw [eAK] at rd
          rw [eCK] at cap
          rw [eAP, eCP] at f0
          rw [eAP] at rz
          clear eAK eCK eAP eCP
          have P0 : ¬ ((P : Int) < 0) := by omega
          have P1 : (P : Int) < (n : Int) := by omega
          have P1n : ¬ ((n : Int) ≤ (P : Int)) := by omega
          have hk1 : (k : Int) < (QN : Int) := by omega
          have H3 : Hid _ := p3
          have H4 : Hid _ := p4
          clear p3 p4
          obtain ⟨K1, y2, S2, hx13⟩ : ∃ K1 y2 S2, (∀ w, (binOp .gtr 3 (.int .i64 (k : Nat)) (.int .i64 0)).run Try.prog w = .ok (.bool false) w) ∨ ((∀ w, (binOp .gtr 3 (.int .i64 (k : Nat)) (.int .i64 0)).run Try.prog w = .ok (.bool true) w) ∧ (∀ w, (Instr.indexAt 27 (.slice (some x3) QN yc) (.int .i64 (k : Nat))).run Try.prog w = .ok (.pointer (some y)) w) ∧ (∀ w, (Instr.fieldAt 40 (.pointer (some y)) 1).run Try.prog w = .ok (.pointer (some ⟨y.block, y.off + 1, none⟩)) w) ∧ (∀ w, (Below WA.heap.size WA w ∧ ∀ p v, wr.cell? p = some v → w.cell? p = some v) → (Instr.loadAt 2 (.pointer (some ⟨y.block, y.off + 1, none⟩))).run Try.prog w = .ok (.int .i64 S) w) ∧ (∀ w, (binOp .sub 3 (.int .i64 (k : Nat)) (.int .i64 1)).run Try.prog w = .ok (.int .i64 (K1 : Nat)) w) ∧ (∀ w, (Instr.indexAt 27 (.slice (some x3) QN yc) (.int .i64 (K1 : Nat))).run Try.prog w = .ok (.pointer (some y2)) w) ∧ (∀ w, (Instr.fieldAt 40 (.pointer (some y2)) 1).run Try.prog w = .ok (.pointer (some ⟨y2.block, y2.off + 1, none⟩)) w) ∧ (∀ w, (Below WA.heap.size WA w ∧ ∀ p v, wr.cell? p = some v → w.cell? p = some v) → (Instr.loadAt 2 (.pointer (some ⟨y2.block, y2.off + 1, none⟩))).run Try.prog w = .ok (.int .i64 S2) w) ∧ (∀ w, (binOp .gtr 2 (.int .i64 S) (.int .i64 S2)).run Try.prog w = .ok (.bool false) w)) := by
            by_cases hk0 : k = 0
            · exact ⟨0, y, 0, .inl (run_gtr3 _ _ (by omega))⟩
            · obtain ⟨K1, ek2⟩ : ∃ K1, K1 + 1 = k := ⟨k - 1, by omega⟩
              have hK2 : K1 < QN := by omega
              obtain ⟨y2, ey2, -, d5, -⟩ := (HB3.out.below hbr).1.at3 (r := K1) hK2
              have eb2 : (growB L G K1).s = (G.getD K1 c0).s := rfl
              rw [eb2] at d5
              have h2 := p2 (by omega)
              rw [show k - 1 = K1 by omega] at h2
              exact ⟨K1, y2, _, .inr ⟨run_gtr3t _ _ (by omega), run_index27 x3 y QN yc k hlt ey, run_field40_1 y, fun W h => run_load2 (h.2 _ _ d1), run_sub1 k K1 ek2 (by omega), run_index27 x3 y2 QN yc K1 hK2 ey2, run_field40_1 y2, fun W h => run_load2 (h.2 _ _ d5), run_gtr2 _ _ (by omega)⟩⟩
          have HX13 : Hid _ := hx13
          clear hx13 p2
          go_wp2
          refine oab_region w.heap.size n QN k P lc yc yd xl x3 x4 y y2 S S2 K1 ((fun W => Below WA.heap.size WA W ∧ (∀ p v, wr.cell? p = some v → W.cell? p = some v))) (by kernel_rfl) rfl ⟨_, rfl, rfl, rfl, rfl, by kernel_rfl⟩ ⟨_, rfl, rfl, rfl, rfl, by kernel_rfl⟩ ⟨_, rfl, rfl, rfl, rfl, by kernel_rfl⟩ ⟨_, rfl, rfl, rfl, rfl, by kernel_rfl⟩ ⟨_, rfl, rfl, rfl, rfl, by kernel_rfl⟩ ⟨_, rfl, rfl, rfl, rfl, by kernel_rfl⟩ ⟨_, rfl, rfl, rfl, rfl, by kernel_rfl⟩ ⟨_, rfl, rfl, rfl, rfl, by kernel_rfl⟩ ⟨_, rfl, rfl, rfl, rfl, by kernel_rfl⟩ ⟨_, rfl, rfl, rfl, rfl, by kernel_rfl⟩ ⟨_, rfl, rfl, rfl, rfl, by kernel_rfl⟩ ⟨_, rfl, rfl, rfl, rfl, by kernel_rfl⟩ ⟨_, rfl, rfl, rfl, rfl, by kernel_rfl⟩ ⟨_, rfl, rfl, rfl, rfl, by kernel_rfl⟩ ⟨_, rfl, rfl, rfl, rfl, by kernel_rfl⟩ ⟨_, rfl, rfl, rfl, rfl, by kernel_rfl⟩ ⟨_, rfl, rfl, rfl, rfl, by kernel_rfl⟩ ⟨_, rfl, rfl, rfl, rfl, by kernel_rfl⟩ ⟨_, rfl, rfl, rfl, rfl, by kernel_rfl⟩ ⟨_, rfl, rfl, rfl, rfl, by kernel_rfl⟩ ⟨_, rfl, rfl, rfl, rfl, by kernel_rfl⟩ ⟨_, rfl, rfl, rfl, rfl, by kernel_rfl⟩ ⟨_, rfl, rfl, rfl, rfl, by kernel_rfl⟩ ⟨_, rfl, rfl, rfl, rfl, by kernel_rfl⟩ ⟨_, rfl, rfl, rfl, rfl, by kernel_rfl⟩ ⟨_, rfl, rfl, rfl, rfl, by kernel_rfl⟩ ⟨_, rfl, rfl, rfl, rfl, by kernel_rfl⟩ ⟨_, rfl, rfl, rfl, rfl, by kernel_rfl⟩ ⟨_, rfl, rfl, rfl, rfl, by kernel_rfl⟩ ⟨_, rfl, rfl, rfl, rfl, by kernel_rfl⟩ ⟨_, rfl, rfl, rfl, rfl, by kernel_rfl⟩ ⟨_, rfl, rfl, rfl, rfl, by kernel_rfl⟩ ⟨_, rfl, rfl, rfl, rfl, by kernel_rfl⟩ ⟨below_drew hbr ⟨1, rfl⟩, fun _ _ h => h⟩ (run_index29 x4 QN yd k hlt) (fun W h => run_load3 (h.2 _ _ cp)) (run_len_lt _ _ (by omega)) (run_index29 x4 QN yd k hlt) (fun W h => run_load3 (h.2 _ _ cp)) (run_field25_0 _) (fun W h => run_load22 (h.2 _ _ q0)) (run_geq3 _ _ (by omega)) HX13.out          rfl rfl rfl rfl (Nat.le_of_ble_eq_true rfl) ?_
          intro a W3 hs hd hkp hS9 e94
          have ep := frame_puts [62, 63, 64, 65, 66, 67, 68, 69, 70, 71, 72, 73, 74, 75, 76, 77, 78, 79, 80, 81, 82, 83, 84, 85, 86, 87, 88, 89, 90, 91, 92, 93, 94] hs hd (fun s h => hkp s (fun i hi e => h (by
            rcases (show i = 0 ∨ i = 1 ∨ i = 2 ∨ i = 3 ∨ i = 4 ∨ i = 5 ∨ i = 6 ∨ i = 7 ∨ i = 8 ∨ i = 9 ∨ i = 10 ∨ i = 11 ∨ i = 12 ∨ i = 13 ∨ i = 14 ∨ i = 15 ∨ i = 16 ∨ i = 17 ∨ i = 18 ∨ i = 19 ∨ i = 20 ∨ i = 21 ∨ i = 22 ∨ i = 23 ∨ i = 24 ∨ i = 25 ∨ i = 26 ∨ i = 27 ∨ i = 28 ∨ i = 29 ∨ i = 30 ∨ i = 31 ∨ i = 32 by omega) with rfl | rfl | rfl | rfl | rfl | rfl | rfl | rfl | rfl | rfl | rfl | rfl | rfl | rfl | rfl | rfl | rfl | rfl | rfl | rfl | rfl | rfl | rfl | rfl | rfl | rfl | rfl | rfl | rfl | rfl | rfl | rfl | rfl <;> (simp only [obD, Option.some.injEq] at e; subst e; simp))))
          simp only [List.foldl] at ep
          rw [e94] at ep
          have H9 := hidden_ hS9
          clear hs hd hkp hS9 e94
          generalize a.tmps.getD 62 undef = g62 at ep
          generalize a.tmps.getD 63 undef = g63 at ep
          generalize a.tmps.getD 64 undef = g64 at ep
          generalize a.tmps.getD 65 undef = g65 at ep
          generalize a.tmps.getD 66 undef = g66 at ep
          generalize a.tmps.getD 67 undef = g67 at ep
          generalize a.tmps.getD 68 undef = g68 at ep
          generalize a.tmps.getD 69 undef = g69 at ep
          generalize a.tmps.getD 70 undef = g70 at ep
          generalize a.tmps.getD 71 undef = g71 at ep
          generalize a.tmps.getD 72 undef = g72 at ep
          generalize a.tmps.getD 73 undef = g73 at ep
          generalize a.tmps.getD 74 undef = g74 at ep
          generalize a.tmps.getD 75 undef = g75 at ep
          generalize a.tmps.getD 76 undef = g76 at ep
          generalize a.tmps.getD 77 undef = g77 at ep
          generalize a.tmps.getD 78 undef = g78 at ep
          generalize a.tmps.getD 79 undef = g79 at ep
          generalize a.tmps.getD 80 undef = g80 at ep
          generalize a.tmps.getD 81 undef = g81 at ep
          generalize a.tmps.getD 82 undef = g82 at ep
          generalize a.tmps.getD 83 undef = g83 at ep
          generalize a.tmps.getD 84 undef = g84 at ep
          generalize a.tmps.getD 85 undef = g85 at ep
          generalize a.tmps.getD 86 undef = g86 at ep
          generalize a.tmps.getD 87 undef = g87 at ep
          generalize a.tmps.getD 88 undef = g88 at ep
          generalize a.tmps.getD 89 undef = g89 at ep
          generalize a.tmps.getD 90 undef = g90 at ep
          generalize a.tmps.getD 91 undef = g91 at ep
          generalize a.tmps.getD 92 undef = g92 at ep
          generalize a.tmps.getD 93 undef = g93 at ep
          simp only [Act.put, List.setIfInBounds_toArray, List.set_cons_succ, List.set_cons_zero] at ep
          subst ep
          clear HX13

          obtain ⟨hb3, pc3⟩ := H9.out
          clear H9
          replace d0 := pc3 _ _ d0
          replace d1 := pc3 _ _ d1
          replace d2 := pc3 _ _ d2
          replace cp := pc3 _ _ cp
          replace f0 := pc3 _ _ f0
          replace f1 := pc3 _ _ f1
          replace f2 := pc3 _ _ f2
          replace q0 := pc3 _ _ q0
          replace q3 := pc3 _ _ q3
          replace q4 := pc3 _ _ q4
          replace rd := rd.carry pc3
          replace rz := rz.carry pc3
          clear pc3 hbr q1 q2 q5
          have cpA : ∀ o, (W3.alloc o).cell? (x4.add k) = _ := fun o => alloc_keep _ _ _ _ cp
          have q0A : ∀ o, (W3.alloc o).cell? ⟨w.heap.size, 0, none⟩ = _ := fun o => alloc_keep _ _ _ _ q0
          have f0A : ∀ o, (W3.alloc o).cell? z = _ := fun o => alloc_keep _ _ _ _ f0
          have f1A : ∀ o, (W3.alloc o).cell? ⟨z.block, z.off + 1, none⟩ = _ := fun o => alloc_keep _ _ _ _ f1
          have f2A : ∀ o, (W3.alloc o).cell? ⟨z.block, z.off + 2, none⟩ = _ := fun o => alloc_keep _ _ _ _ f2
          go_wp2
          go_region
          obtain ⟨W5, eW5⟩ : ∃ W5, (W3.alloc (.cells #[.slice AP LN CP, .int .i64 LS, .bool LF] 42)).drew = W5 := ⟨_, rfl⟩
          rw [eW5]
          have b5 : Below W3.heap.size W3 W5 := by rw [← eW5]; exact below_drew (below_new (Below.refl _ _) _) ⟨1, rfl⟩
          obtain ⟨e0, e1, e2⟩ : W5.cell? ⟨W3.heap.size, 0, none⟩ = some (.slice AP LN CP) ∧ W5.cell? ⟨W3.heap.size, 1, none⟩ = some (.int .i64 LS) ∧ W5.cell? ⟨W3.heap.size, 2, none⟩ = some (.bool LF) := by rw [← eW5]; exact ⟨lit_new W3 [.slice AP LN CP, .int .i64 LS, .bool LF] 42 0 _ rfl, lit_new W3 [.slice AP LN CP, .int .i64 LS, .bool LF] 42 1 _ rfl, lit_new W3 [.slice AP LN CP, .int .i64 LS, .bool LF] 42 2 _ rfl⟩
          replace d0 := below_cell b5 d0
          replace d1 := below_cell b5 d1
          replace d2 := below_cell b5 d2
          replace q3 := below_cell b5 q3
          replace q4 := below_cell b5 q4
          replace rd := rd.below b5
          replace rz := rz.below b5
          have hb5 := below_then hb3 b5
          obtain ⟨b7, eb7⟩ : ∃ b, W3.heap.size = b := ⟨_, rfl⟩
          rw [eb7] at e0 e1 e2
          simp only [eb7]
          clear cpA q0A f0A f1A f2A f0 f1 f2 cp q0 eW5 b5 hb3 eb7 ez P0 P1 P1n
          cases LF with
          | true =>
            obtain ⟨rfl, rfl, rfl⟩ := H3.out rfl
            obtain ⟨t1, t2, t3⟩ := HTT.out
            simp only [if_true, List.append_nil] at t1
            subst t1
            obtain rfl : LN = TN := t3.symm.trans t2
            clear H3 H4 HTT t2 t3
            go_wp2
            refine oc_region QN k yc b7 LN CK CP x3 y AK AP S ((fun W => Below WA.heap.size WA W ∧ (∀ p v, W5.cell? p = some v → W.cell? p = some v))) (by kernel_rfl) rfl ⟨_, rfl, rfl, rfl, rfl, by kernel_rfl⟩ ⟨_, rfl, rfl, rfl, rfl, by kernel_rfl⟩ ⟨_, rfl, rfl, rfl, rfl, by kernel_rfl⟩ ⟨_, rfl, rfl, rfl, rfl, by kernel_rfl⟩ ⟨_, rfl, rfl, rfl, rfl, by kernel_rfl⟩ ⟨_, rfl, rfl, rfl, rfl, by kernel_rfl⟩ ⟨_, rfl, rfl, rfl, rfl, by kernel_rfl⟩ ⟨_, rfl, rfl, rfl, rfl, by kernel_rfl⟩ ⟨_, rfl, rfl, rfl, rfl, by kernel_rfl⟩ ⟨_, rfl, rfl, rfl, rfl, by kernel_rfl⟩ ⟨_, rfl, rfl, rfl, rfl, by kernel_rfl⟩ ⟨_, rfl, rfl, rfl, rfl, by kernel_rfl⟩ ⟨_, rfl, rfl, rfl, rfl, by kernel_rfl⟩ ⟨_, rfl, rfl, rfl, rfl, by kernel_rfl⟩ ⟨_, rfl, rfl, rfl, rfl, by kernel_rfl⟩ ⟨_, rfl, rfl, rfl, rfl, by kernel_rfl⟩ ⟨_, rfl, rfl, rfl, rfl, by kernel_rfl⟩ ⟨_, rfl, rfl, rfl, rfl, by kernel_rfl⟩ ⟨_, rfl, rfl, rfl, rfl, by kernel_rfl⟩ ⟨_, rfl, rfl, rfl, rfl, by kernel_rfl⟩ ⟨_, rfl, rfl, rfl, rfl, by kernel_rfl⟩ ⟨_, rfl, rfl, rfl, rfl, by kernel_rfl⟩ ⟨_, rfl, rfl, rfl, rfl, by kernel_rfl⟩ ⟨_, rfl, rfl, rfl, rfl, by kernel_rfl⟩ ⟨_, rfl, rfl, rfl, rfl, by kernel_rfl⟩ ⟨_, rfl, rfl, rfl, rfl, by kernel_rfl⟩ ⟨_, rfl, rfl, rfl, rfl, by kernel_rfl⟩ ⟨below_drew hb5 ⟨1, rfl⟩, fun _ _ h => h⟩ (run_index27 x3 y QN yc k hlt ey) (run_field40_2 y) (fun W h => run_load4 (h.2 _ _ d2)) (run_index27 x3 y QN yc k hlt ey) (run_field40_0 y) (fun W h => run_load29 (h.2 _ _ d0)) (run_field42_0 ⟨b7, 0, none⟩) (fun W h => run_load29 (h.2 _ _ e0)) (fun W h => (same_ints AK LN CK LT AP LN CP W (rd.carry h.2) (rz.carry h.2)).mono (by rintro e W' ⟨rfl, mm, rfl⟩; exact ⟨rfl, below_drew (Below.refl _ _) ⟨mm, rfl⟩, below_drew h.1 ⟨mm, rfl⟩, h.2⟩)) (run_index27 x3 y QN yc k hlt ey) (run_field40_1 y) (fun W h => run_load2 (h.2 _ _ d1)) (run_field42_1 ⟨b7, 0, none⟩) (fun W h => run_load2 (h.2 _ _ e1)) (run_neq2 _) rfl rfl rfl (Nat.le_of_ble_eq_true rfl) ?_
            intro a W6 hs hd hkp hS9 hval
            have e134 : a.tmps.getD 134 undef = .bool false := hval 26 134 (by decide) rfl
            have ep := frame_puts [108, 109, 110, 111, 112, 113, 114, 115, 116, 117, 118, 119, 120, 121, 122, 123, 124, 125, 126, 127, 128, 129, 130, 131, 132, 133, 134] hs hd (fun s h => hkp s (fun i hi e => h (by
              rcases (show i = 0 ∨ i = 1 ∨ i = 2 ∨ i = 3 ∨ i = 4 ∨ i = 5 ∨ i = 6 ∨ i = 7 ∨ i = 8 ∨ i = 9 ∨ i = 10 ∨ i = 11 ∨ i = 12 ∨ i = 13 ∨ i = 14 ∨ i = 15 ∨ i = 16 ∨ i = 17 ∨ i = 18 ∨ i = 19 ∨ i = 20 ∨ i = 21 ∨ i = 22 ∨ i = 23 ∨ i = 24 ∨ i = 25 ∨ i = 26 by omega) with rfl | rfl | rfl | rfl | rfl | rfl | rfl | rfl | rfl | rfl | rfl | rfl | rfl | rfl | rfl | rfl | rfl | rfl | rfl | rfl | rfl | rfl | rfl | rfl | rfl | rfl | rfl <;> (simp only [ocD, Option.some.injEq] at e; subst e; simp))))
            simp only [List.foldl] at ep
            rw [e134] at ep
            have H9 := hidden_ hS9
            clear hs hd hkp hval hS9 e134
            generalize a.tmps.getD 108 undef = g108 at ep
            generalize a.tmps.getD 109 undef = g109 at ep
            generalize a.tmps.getD 110 undef = g110 at ep
            generalize a.tmps.getD 111 undef = g111 at ep
            generalize a.tmps.getD 112 undef = g112 at ep
            generalize a.tmps.getD 113 undef = g113 at ep
            generalize a.tmps.getD 114 undef = g114 at ep
            generalize a.tmps.getD 115 undef = g115 at ep
            generalize a.tmps.getD 116 undef = g116 at ep
            generalize a.tmps.getD 117 undef = g117 at ep
            generalize a.tmps.getD 118 undef = g118 at ep
            generalize a.tmps.getD 119 undef = g119 at ep
            generalize a.tmps.getD 120 undef = g120 at ep
            generalize a.tmps.getD 121 undef = g121 at ep
            generalize a.tmps.getD 122 undef = g122 at ep
            generalize a.tmps.getD 123 undef = g123 at ep
            generalize a.tmps.getD 124 undef = g124 at ep
            generalize a.tmps.getD 125 undef = g125 at ep
            generalize a.tmps.getD 126 undef = g126 at ep
            generalize a.tmps.getD 127 undef = g127 at ep
            generalize a.tmps.getD 128 undef = g128 at ep
            generalize a.tmps.getD 129 undef = g129 at ep
            generalize a.tmps.getD 130 undef = g130 at ep
            generalize a.tmps.getD 131 undef = g131 at ep
            generalize a.tmps.getD 132 undef = g132 at ep
            generalize a.tmps.getD 133 undef = g133 at ep
            simp only [Act.put, List.setIfInBounds_toArray, List.set_cons_succ, List.set_cons_zero] at ep
            subst ep
            obtain ⟨hb6, -⟩ := H9.out
            clear H9
            clear d0 d1 d2 rd rz cap e0 e1 e2 q3 q4 ey tz p1 hk1 hb5
            go_wp2
            go_roundw
            case rel => exact ⟨k + 1, by omega, by go_num, hb6⟩
            case measure => simp [intOf]; omega
          | false =>
            obtain ⟨j, rfl, hS9, hF⟩ := H4.out rfl
            obtain ⟨t1, t2, t3⟩ := HTT.out
            rw [if_neg (by omega)] at t1
            obtain rfl : TN = LN + 1 := by rw [← t2, ← t1, List.length_append, t3]; rfl
            obtain ⟨TN, eTN⟩ : ∃ T, LN + 1 = T := ⟨_, rfl⟩
            rw [eTN] at d0 rd cap
            have rf := rd.front (m := LN) (by omega)
            rw [show TT.take LN = LT by rw [← t1, ← t3]; simp] at rf
            obtain ⟨XK, rfl⟩ := rd.some_ (by omega)
            have ck := rd.cell XK rfl LN (by omega)
            rw [show TT.getD LN 0 = (j : Int) by rw [← t1, ← t3]; simp [List.getD]] at ck
            have HN : Hid (LN + 1 = TN) := eTN
            have hLT : LN < TN := by omega
            have HF : Hid (F = (decide ((j : Int) = St) || decide (Ln ≤ (LN : Int) + 1))) := hF
            have HS9 : Hid (S ≤ max LS (-2147483648)) := hS9
            clear H3 H4 HTT t1 t2 t3 eTN hF hS9
            go_wp2
            refine od_region QN k yc b7 TN LN CK CP x3 y (some XK) AP S LS (max LS (-2147483648)) ((fun W => Below WA.heap.size WA W ∧ (∀ p v, W5.cell? p = some v → W.cell? p = some v))) (by kernel_rfl) rfl ⟨_, rfl, rfl, rfl, rfl, by kernel_rfl⟩ ⟨_, rfl, rfl, rfl, rfl, by kernel_rfl⟩ ⟨_, rfl, rfl, rfl, rfl, by kernel_rfl⟩ ⟨_, rfl, rfl, rfl, rfl, by kernel_rfl⟩ ⟨_, rfl, rfl, rfl, rfl, by kernel_rfl⟩ ⟨_, rfl, rfl, rfl, rfl, by kernel_rfl⟩ ⟨_, rfl, rfl, rfl, rfl, by kernel_rfl⟩ ⟨_, rfl, rfl, rfl, rfl, by kernel_rfl⟩ ⟨_, rfl, rfl, rfl, rfl, by kernel_rfl⟩ ⟨_, rfl, rfl, rfl, rfl, by kernel_rfl⟩ ⟨_, rfl, rfl, rfl, rfl, by kernel_rfl⟩ ⟨_, rfl, rfl, rfl, rfl, by kernel_rfl⟩ ⟨_, rfl, rfl, rfl, rfl, by kernel_rfl⟩ ⟨_, rfl, rfl, rfl, rfl, by kernel_rfl⟩ ⟨_, rfl, rfl, rfl, rfl, by kernel_rfl⟩ ⟨_, rfl, rfl, rfl, rfl, by kernel_rfl⟩ ⟨_, rfl, rfl, rfl, rfl, by kernel_rfl⟩ ⟨_, rfl, rfl, rfl, rfl, by kernel_rfl⟩ ⟨_, rfl, rfl, rfl, rfl, by kernel_rfl⟩ ⟨_, rfl, rfl, rfl, rfl, by kernel_rfl⟩ ⟨_, rfl, rfl, rfl, rfl, by kernel_rfl⟩ ⟨_, rfl, rfl, rfl, rfl, by kernel_rfl⟩ ⟨_, rfl, rfl, rfl, rfl, by kernel_rfl⟩ ⟨_, rfl, rfl, rfl, rfl, by kernel_rfl⟩ ⟨_, rfl, rfl, rfl, rfl, by kernel_rfl⟩ ⟨_, rfl, rfl, rfl, rfl, by kernel_rfl⟩ ⟨_, rfl, rfl, rfl, rfl, by kernel_rfl⟩ ⟨_, rfl, rfl, rfl, rfl, by kernel_rfl⟩ ⟨_, rfl, rfl, rfl, rfl, by kernel_rfl⟩ ⟨_, rfl, rfl, rfl, rfl, by kernel_rfl⟩ ⟨_, rfl, rfl, rfl, rfl, by kernel_rfl⟩ ⟨_, rfl, rfl, rfl, rfl, by kernel_rfl⟩ ⟨_, rfl, rfl, rfl, rfl, by kernel_rfl⟩ ⟨below_drew hb5 ⟨1, rfl⟩, fun _ _ h => h⟩ (run_index27 x3 y QN yc k hlt ey) (run_field40_0 y) (fun W h => run_load29 (h.2 _ _ d0)) (run_add1 LN TN HN.out (by omega)) (run_neq3 _) (run_index27 x3 y QN yc k hlt ey) (run_field40_0 y) (fun W h => run_load29 (h.2 _ _ d0)) (run_cut29 (some XK) TN CK LN (by omega) cap) (run_field42_0 ⟨b7, 0, none⟩) (fun W h => run_load29 (h.2 _ _ e0)) (fun W h => (same_ints (some XK) LN CK LT AP LN CP W (rf.carry h.2) (rz.carry h.2)).mono (by rintro e W' ⟨rfl, mm, rfl⟩; exact ⟨rfl, below_drew (Below.refl _ _) ⟨mm, rfl⟩, below_drew h.1 ⟨mm, rfl⟩, h.2⟩)) (run_index27 x3 y QN yc k hlt ey) (run_field40_1 y) (fun W h => run_load2 (h.2 _ _ d1)) (run_field42_1 ⟨b7, 0, none⟩) (fun W h => run_load2 (h.2 _ _ e1)) (run_max2 _ _) (run_gtr2 _ _ (by have := HS9.out; omega)) rfl rfl rfl rfl (Nat.le_of_ble_eq_true rfl) ?_
            intro a W6 hs hd hkp hS9 hval
            have e167 : a.tmps.getD 167 undef = .bool false := hval 32 167 (by decide) rfl
            have ep := frame_puts [135, 136, 137, 138, 139, 140, 141, 142, 143, 144, 145, 146, 147, 148, 149, 150, 151, 152, 153, 154, 155, 156, 157, 158, 159, 160, 161, 162, 163, 164, 165, 166, 167] hs hd (fun s h => hkp s (fun i hi e => h (by
              rcases (show i = 0 ∨ i = 1 ∨ i = 2 ∨ i = 3 ∨ i = 4 ∨ i = 5 ∨ i = 6 ∨ i = 7 ∨ i = 8 ∨ i = 9 ∨ i = 10 ∨ i = 11 ∨ i = 12 ∨ i = 13 ∨ i = 14 ∨ i = 15 ∨ i = 16 ∨ i = 17 ∨ i = 18 ∨ i = 19 ∨ i = 20 ∨ i = 21 ∨ i = 22 ∨ i = 23 ∨ i = 24 ∨ i = 25 ∨ i = 26 ∨ i = 27 ∨ i = 28 ∨ i = 29 ∨ i = 30 ∨ i = 31 ∨ i = 32 by omega) with rfl | rfl | rfl | rfl | rfl | rfl | rfl | rfl | rfl | rfl | rfl | rfl | rfl | rfl | rfl | rfl | rfl | rfl | rfl | rfl | rfl | rfl | rfl | rfl | rfl | rfl | rfl | rfl | rfl | rfl | rfl | rfl | rfl <;> (simp only [odD, Option.some.injEq] at e; subst e; simp))))
            simp only [List.foldl] at ep
            rw [e167] at ep
            have H9 := hidden_ hS9
            clear hs hd hkp hval hS9 e167
            generalize a.tmps.getD 135 undef = g135 at ep
            generalize a.tmps.getD 136 undef = g136 at ep
            generalize a.tmps.getD 137 undef = g137 at ep
            generalize a.tmps.getD 138 undef = g138 at ep
            generalize a.tmps.getD 139 undef = g139 at ep
            generalize a.tmps.getD 140 undef = g140 at ep
            generalize a.tmps.getD 141 undef = g141 at ep
            generalize a.tmps.getD 142 undef = g142 at ep
            generalize a.tmps.getD 143 undef = g143 at ep
            generalize a.tmps.getD 144 undef = g144 at ep
            generalize a.tmps.getD 145 undef = g145 at ep
            generalize a.tmps.getD 146 undef = g146 at ep
            generalize a.tmps.getD 147 undef = g147 at ep
            generalize a.tmps.getD 148 undef = g148 at ep
            generalize a.tmps.getD 149 undef = g149 at ep
            generalize a.tmps.getD 150 undef = g150 at ep
            generalize a.tmps.getD 151 undef = g151 at ep
            generalize a.tmps.getD 152 undef = g152 at ep
            generalize a.tmps.getD 153 undef = g153 at ep
            generalize a.tmps.getD 154 undef = g154 at ep
            generalize a.tmps.getD 155 undef = g155 at ep
            generalize a.tmps.getD 156 undef = g156 at ep
            generalize a.tmps.getD 157 undef = g157 at ep
            generalize a.tmps.getD 158 undef = g158 at ep
            generalize a.tmps.getD 159 undef = g159 at ep
            generalize a.tmps.getD 160 undef = g160 at ep
            generalize a.tmps.getD 161 undef = g161 at ep
            generalize a.tmps.getD 162 undef = g162 at ep
            generalize a.tmps.getD 163 undef = g163 at ep
            generalize a.tmps.getD 164 undef = g164 at ep
            generalize a.tmps.getD 165 undef = g165 at ep
            generalize a.tmps.getD 166 undef = g166 at ep
            simp only [Act.put, List.setIfInBounds_toArray, List.set_cons_succ, List.set_cons_zero] at ep
            subst ep
            obtain ⟨hb6, pc6⟩ := H9.out
            clear H9
            by_cases hj : (j : Int) = St
            · obtain rfl : F = true := by rw [HF.out]; simp [hj]
              subst hj
              clear HF
              go_wp2
              refine oe_region w.heap.size QN k yc TN LN CK x3 y XK (j : Int) (j : Int) Ln ((fun W => Below WA.heap.size WA W ∧ (∀ p v, W5.cell? p = some v → W.cell? p = some v))) (by kernel_rfl) rfl ⟨_, rfl, rfl, rfl, rfl, by kernel_rfl⟩ ⟨_, rfl, rfl, rfl, rfl, by kernel_rfl⟩ ⟨_, rfl, rfl, rfl, rfl, by kernel_rfl⟩ ⟨_, rfl, rfl, rfl, rfl, by kernel_rfl⟩ ⟨_, rfl, rfl, rfl, rfl, by kernel_rfl⟩ ⟨_, rfl, rfl, rfl, rfl, by kernel_rfl⟩ ⟨_, rfl, rfl, rfl, rfl, by kernel_rfl⟩ ⟨_, rfl, rfl, rfl, rfl, by kernel_rfl⟩ ⟨_, rfl, rfl, rfl, rfl, by kernel_rfl⟩ ⟨_, rfl, rfl, rfl, rfl, by kernel_rfl⟩ ⟨_, rfl, rfl, rfl, rfl, by kernel_rfl⟩ ⟨_, rfl, rfl, rfl, rfl, by kernel_rfl⟩ ⟨_, rfl, rfl, rfl, rfl, by kernel_rfl⟩ ⟨_, rfl, rfl, rfl, rfl, by kernel_rfl⟩ ⟨_, rfl, rfl, rfl, rfl, by kernel_rfl⟩ ⟨_, rfl, rfl, rfl, rfl, by kernel_rfl⟩ ⟨_, rfl, rfl, rfl, rfl, by kernel_rfl⟩ ⟨_, rfl, rfl, rfl, rfl, by kernel_rfl⟩ ⟨_, rfl, rfl, rfl, rfl, by kernel_rfl⟩ ⟨_, rfl, rfl, rfl, rfl, by kernel_rfl⟩ ⟨_, rfl, rfl, rfl, rfl, by kernel_rfl⟩ ⟨_, rfl, rfl, rfl, rfl, by kernel_rfl⟩ ⟨_, rfl, rfl, rfl, rfl, by kernel_rfl⟩ ⟨_, rfl, rfl, rfl, rfl, by kernel_rfl⟩ ⟨below_drew hb6 ⟨1, rfl⟩, pc6⟩ (run_index27 x3 y QN yc k hlt ey) (run_field40_2 y) (fun W h => run_load4 (h.2 _ _ d2)) (run_index27 x3 y QN yc k hlt ey) (run_field40_0 y) (fun W h => run_load29 (h.2 _ _ d0)) (run_index29 XK TN CK LN hLT) (fun W h => run_load3 (h.2 _ _ ck)) (run_field25_4 _) (fun W h => run_load3 (h.2 _ _ q4)) (run_eql3 _) (run_neq4 _) rfl rfl rfl rfl (Nat.le_of_ble_eq_true rfl) ?_
              intro a W8 hs hd hkp hS9 hval
              have e191 : a.tmps.getD 191 undef = .bool false := hval 23 191 (by decide) rfl
              have ep := frame_puts [168, 169, 170, 171, 172, 173, 174, 175, 176, 177, 178, 179, 180, 181, 182, 183, 184, 185, 186, 187, 188, 189, 190, 191] hs hd (fun s h => hkp s (fun i hi e => h (by
                rcases (show i = 0 ∨ i = 1 ∨ i = 2 ∨ i = 3 ∨ i = 4 ∨ i = 5 ∨ i = 6 ∨ i = 7 ∨ i = 8 ∨ i = 9 ∨ i = 10 ∨ i = 11 ∨ i = 12 ∨ i = 13 ∨ i = 14 ∨ i = 15 ∨ i = 16 ∨ i = 17 ∨ i = 18 ∨ i = 19 ∨ i = 20 ∨ i = 21 ∨ i = 22 ∨ i = 23 by omega) with rfl | rfl | rfl | rfl | rfl | rfl | rfl | rfl | rfl | rfl | rfl | rfl | rfl | rfl | rfl | rfl | rfl | rfl | rfl | rfl | rfl | rfl | rfl | rfl <;> (simp only [oeD, Option.some.injEq] at e; subst e; simp))))
              simp only [List.foldl] at ep
              rw [e191] at ep
              have H9 := hidden_ hS9
              clear hs hd hkp hval hS9 e191
              generalize a.tmps.getD 168 undef = g168 at ep
              generalize a.tmps.getD 169 undef = g169 at ep
              generalize a.tmps.getD 170 undef = g170 at ep
              generalize a.tmps.getD 171 undef = g171 at ep
              generalize a.tmps.getD 172 undef = g172 at ep
              generalize a.tmps.getD 173 undef = g173 at ep
              generalize a.tmps.getD 174 undef = g174 at ep
              generalize a.tmps.getD 175 undef = g175 at ep
              generalize a.tmps.getD 176 undef = g176 at ep
              generalize a.tmps.getD 177 undef = g177 at ep
              generalize a.tmps.getD 178 undef = g178 at ep
              generalize a.tmps.getD 179 undef = g179 at ep
              generalize a.tmps.getD 180 undef = g180 at ep
              generalize a.tmps.getD 181 undef = g181 at ep
              generalize a.tmps.getD 182 undef = g182 at ep
              generalize a.tmps.getD 183 undef = g183 at ep
              generalize a.tmps.getD 184 undef = g184 at ep
              generalize a.tmps.getD 185 undef = g185 at ep
              generalize a.tmps.getD 186 undef = g186 at ep
              generalize a.tmps.getD 187 undef = g187 at ep
              generalize a.tmps.getD 188 undef = g188 at ep
              generalize a.tmps.getD 189 undef = g189 at ep
              generalize a.tmps.getD 190 undef = g190 at ep
              simp only [Act.put, List.setIfInBounds_toArray, List.set_cons_succ, List.set_cons_zero] at ep
              subst ep
              obtain ⟨hb8, -⟩ := H9.out
              clear H9 rf ck HN hLT HS9 pc6
              clear d0 d1 d2 rd rz cap e0 e1 e2 q3 q4 ey tz p1 hk1 hb5 hb6
              go_wp2
              go_roundw
              case rel => exact ⟨k + 1, by omega, by go_num, hb8⟩
              case measure => simp [intOf]; omega
            · obtain rfl : F = decide (Ln ≤ (TN : Int)) := by rw [HF.out, ← HN.out]; simp [hj]
              clear HF
              go_wp2
              refine of_region w.heap.size QN k yc TN LN CK x3 y XK (j : Int) St Ln (decide (Ln ≤ (TN : Int))) ((fun W => Below WA.heap.size WA W ∧ (∀ p v, W5.cell? p = some v → W.cell? p = some v))) (by kernel_rfl) rfl ⟨_, rfl, rfl, rfl, rfl, by kernel_rfl⟩ ⟨_, rfl, rfl, rfl, rfl, by kernel_rfl⟩ ⟨_, rfl, rfl, rfl, rfl, by kernel_rfl⟩ ⟨_, rfl, rfl, rfl, rfl, by kernel_rfl⟩ ⟨_, rfl, rfl, rfl, rfl, by kernel_rfl⟩ ⟨_, rfl, rfl, rfl, rfl, by kernel_rfl⟩ ⟨_, rfl, rfl, rfl, rfl, by kernel_rfl⟩ ⟨_, rfl, rfl, rfl, rfl, by kernel_rfl⟩ ⟨_, rfl, rfl, rfl, rfl, by kernel_rfl⟩ ⟨_, rfl, rfl, rfl, rfl, by kernel_rfl⟩ ⟨_, rfl, rfl, rfl, rfl, by kernel_rfl⟩ ⟨_, rfl, rfl, rfl, rfl, by kernel_rfl⟩ ⟨_, rfl, rfl, rfl, rfl, by kernel_rfl⟩ ⟨_, rfl, rfl, rfl, rfl, by kernel_rfl⟩ ⟨_, rfl, rfl, rfl, rfl, by kernel_rfl⟩ ⟨_, rfl, rfl, rfl, rfl, by kernel_rfl⟩ ⟨_, rfl, rfl, rfl, rfl, by kernel_rfl⟩ ⟨_, rfl, rfl, rfl, rfl, by kernel_rfl⟩ ⟨_, rfl, rfl, rfl, rfl, by kernel_rfl⟩ ⟨_, rfl, rfl, rfl, rfl, by kernel_rfl⟩ ⟨_, rfl, rfl, rfl, rfl, by kernel_rfl⟩ ⟨_, rfl, rfl, rfl, rfl, by kernel_rfl⟩ ⟨_, rfl, rfl, rfl, rfl, by kernel_rfl⟩ ⟨_, rfl, rfl, rfl, rfl, by kernel_rfl⟩ ⟨below_drew hb6 ⟨1, rfl⟩, pc6⟩ (run_index27 x3 y QN yc k hlt ey) (run_field40_2 y) (fun W h => run_load4 (h.2 _ _ d2)) (run_index27 x3 y QN yc k hlt ey) (run_field40_0 y) (fun W h => run_load29 (h.2 _ _ d0)) (run_index29 XK TN CK LN hLT) (fun W h => run_load3 (h.2 _ _ ck)) (run_field25_4 _) (fun W h => run_load3 (h.2 _ _ q4)) (run_eql3f _ _ hj) (run_add1 LN TN HN.out (by omega)) (run_field25_3 _) (fun W h => run_load3 (h.2 _ _ q3)) (run_geq3d _ _) (run_neq4 _) rfl rfl rfl rfl (Nat.le_of_ble_eq_true rfl) ?_
              intro a W8 hs hd hkp hS9 hval
              have e191 : a.tmps.getD 191 undef = .bool false := hval 23 191 (by decide) rfl
              have ep := frame_puts [168, 169, 170, 171, 172, 173, 174, 175, 176, 177, 178, 179, 180, 181, 182, 183, 184, 185, 186, 187, 188, 189, 190, 191] hs hd (fun s h => hkp s (fun i hi e => h (by
                rcases (show i = 0 ∨ i = 1 ∨ i = 2 ∨ i = 3 ∨ i = 4 ∨ i = 5 ∨ i = 6 ∨ i = 7 ∨ i = 8 ∨ i = 9 ∨ i = 10 ∨ i = 11 ∨ i = 12 ∨ i = 13 ∨ i = 14 ∨ i = 15 ∨ i = 16 ∨ i = 17 ∨ i = 18 ∨ i = 19 ∨ i = 20 ∨ i = 21 ∨ i = 22 ∨ i = 23 by omega) with rfl | rfl | rfl | rfl | rfl | rfl | rfl | rfl | rfl | rfl | rfl | rfl | rfl | rfl | rfl | rfl | rfl | rfl | rfl | rfl | rfl | rfl | rfl | rfl <;> (simp only [ofD, Option.some.injEq] at e; subst e; simp))))
              simp only [List.foldl] at ep
              rw [e191] at ep
              have H9 := hidden_ hS9
              clear hs hd hkp hval hS9 e191
              generalize a.tmps.getD 168 undef = g168 at ep
              generalize a.tmps.getD 169 undef = g169 at ep
              generalize a.tmps.getD 170 undef = g170 at ep
              generalize a.tmps.getD 171 undef = g171 at ep
              generalize a.tmps.getD 172 undef = g172 at ep
              generalize a.tmps.getD 173 undef = g173 at ep
              generalize a.tmps.getD 174 undef = g174 at ep
              generalize a.tmps.getD 175 undef = g175 at ep
              generalize a.tmps.getD 176 undef = g176 at ep
              generalize a.tmps.getD 177 undef = g177 at ep
              generalize a.tmps.getD 178 undef = g178 at ep
              generalize a.tmps.getD 179 undef = g179 at ep
              generalize a.tmps.getD 180 undef = g180 at ep
              generalize a.tmps.getD 181 undef = g181 at ep
              generalize a.tmps.getD 182 undef = g182 at ep
              generalize a.tmps.getD 183 undef = g183 at ep
              generalize a.tmps.getD 184 undef = g184 at ep
              generalize a.tmps.getD 185 undef = g185 at ep
              generalize a.tmps.getD 186 undef = g186 at ep
              generalize a.tmps.getD 187 undef = g187 at ep
              generalize a.tmps.getD 188 undef = g188 at ep
              generalize a.tmps.getD 189 undef = g189 at ep
              generalize a.tmps.getD 190 undef = g190 at ep
              simp only [Act.put, List.setIfInBounds_toArray, List.set_cons_succ, List.set_cons_zero] at ep
              subst ep
              obtain ⟨hb8, -⟩ := H9.out
              clear H9 rf ck HN hLT HS9 pc6
              clear d0 d1 d2 rd rz cap e0 e1 e2 q3 q4 ey tz p1 hk1 hb5 hb6
              go_wp2
              go_roundw
              case rel => exact ⟨k + 1, by omega, by go_num, hb8⟩
              case measure => simp [intOf]; omega
        · obtain rfl : k = QN := by omega
          go_wp2
          go_ret
          exact ⟨rfl, below_then hb9 hbr⟩
    · obtain rfl := hnil hE
      have hE2 : (EC == 0) = false := by simp [hE]
      have hE3 : (EC != 0) = true := by simp [hE]
      clear hE hnil HO hlen hwd hB3 hR4
      simp only [List.length_nil]
      go_wp2
      go_ret
      exact ⟨rfl, hb9⟩

theorem contract (H : Type) (enc : TypeId × Value → H) (W : World) (base : Nat) (args : Array Value) (ds gs : List (DataW H)) (before : List MemPlace)
    (hval0 : ∀ (j : Nat) t v, Try.f4.params[j]? = some t → args[j]? = some v → Value.okWide Try.prog W .any base t v)
    (hW : DataW.Whole enc Try.prog Try.f4.params.toList Rows.beamOrderSpec.vars false W args.toList ds gs before)
    (hsz0 : (DataW.weightsEach Try.prog (Try.f4.params.toList ++ Rows.beamOrderSpec.plain.varTypes Try.prog) (ds ++ gs)).all (· ≤ reachBytes) = true) :
    Calls Try.prog 4 args W fun e W' => ∃ v, e = .returned v ∧ Rows.beamOrderSpec.post enc Try.prog Try.f4 false true false false W args v W' := by
  have hval : ∀ (j : Nat) t v, Try.f4.params[j]? = some t → args[j]? = some v → Value.okWide Try.prog W .any base t v := hval0
  have hW' := hW
  obtain ⟨p, q, hA0, hV, rfl, hfz, hnd⟩ := hW
  have hA : DataW.TrodAll enc Try.prog W 0 (fun _ => true) true Try.f4.params.toList args.toList ds p := hA0
  have hsz : (DataW.weightsEach Try.prog (Try.f4.params.toList ++ Rows.beamOrderSpec.plain.varTypes Try.prog) (ds ++ gs)).all (· ≤ reachBytes) = true := hsz0
  rw [Try.params4] at hA hval hsz
  obtain ⟨v0, vs0, d0, ds0, p0, q0, hargs, rfl, rfl, h0, r0⟩ := trodAll_cons hA
  obtain ⟨rfl, rfl, rfl⟩ := trodAll_nil r0
  obtain rfl : args = #[v0] := by cases args; simp_all
  obtain ⟨rfl, rfl⟩ := trodVars_none hV
  have k0 := h0
  have lt0 : ∀ x ∈ p0, x.block < W.heap.size := by obtain ⟨m, hm⟩ := k0; exact DataW.trod_lt m _ _ _ hm
  obtain ⟨C0, rfl, s0⟩ := open_bcase (hval 0 25 v0 rfl rfl) h0
  have w0 : CsAt W C0 := s0 fun q hq => of_decide_eq_true (List.all_eq_true.1 hsz q (DataW.weights_mem_each (j := 0) rfl rfl q hq))
  clear hA0 hval0
  refine (walk C0 W w0).mono fun e W' ⟨he, bel⟩ => ?_
  subst he
  exact ⟨_, rfl, _, _, _, [], _, [], hW', trodAll_mk1 (shut_bool Try.underlying4 _), (trodAll_cons_mk (Below.trod laidOut (by kernel_rfl) (of_decide_eq_true (by kernel_rfl)) k0 bel lt0) trodAll_mk0), rfl, bel.frame _, fun h => by cases h⟩

set_option maxRecDepth 100000 in
theorem lifted (os : Os) (started : os.Started) (H : Type) (enc : TypeId × Value → H) :
    ReturnsInHanded {} Try.checked os 4 .any (Rows.beamOrderSpec.pre6 enc Try.prog Try.f4 Rows.beamOrderRow.domain false) (Rows.beamOrderSpec.post enc Try.prog Try.f4 false true false false) := by
  refine returnsInHanded_of_change_sized (C := Try.checked) own started (by kernel_rfl) Try.func4
    (ChangeSpec.witness6 (enc := enc) (C := Try.checked) false ⟨#[], #[.agg #[.slice none 0 0, .slice none 0 0, .int .i64 0, .int .i64 0, .int .i64 0, .int .i64 0]], []⟩ 8 (by kernel_rfl) (by kernel_rfl) (by kernel_rfl) (by kernel_rfl)) ?_
  intro W base args ds gs before hval hW _ hsz _
  exact contract H enc W base args ds gs before hval hW hsz

theorem over : Rows.beamOrderRow.holds Try.pinned (OpenSpec.ofChange Rows.beamOrderSpec) :=
  OpenClaim.holds_of_wide 4 Try.f4 rfl rfl rfl rfl rfl rfl rfl ⟨rfl, rfl, rfl, rfl, rfl⟩ rfl rfl rfl rfl rfl (by kernel_rfl) Try.func4 (by kernel_rfl)
    (of_decide_eq_true (by kernel_rfl)) (by unfold Func.isWrapper; first | (rw [if_pos (by decide +kernel)]; kernel_rfl) | (rw [if_neg (by decide +kernel)]; exact ⟨rfl, rfl⟩))
    (fun os started H enc _ => lifted os started H enc)

theorem proved : Rows.BeamOrderSaid :=
  over
#print axioms proved
end Go.Proofs.Yteeljnibglnflaa.beamOrder
