/- For every number of pages and every row of acts (the first fifty, up to one that names more than a hundred pages): whatever is placed, fetched, released, shared and put, in any order, the program's answer is the document's, and behind each act both pools are told alike, page by page. -/
import Derived.Test.YtjbocoheognneaaRows
import Derived.Test.YtjbocoheognneaaPages
import Derived.Test.YtjbocoheognneaaView
import Derived.Test.YtjbocoheognneaaOwn
import Derived.Test.YtjbocoheognneaaSame
import Derived.Test.YtjbocoheognneaaReadsP
import Derived.Test.YtjbocoheognneaaReadsQ
import Derived.Test.YtjbocoheognneaaLeast
import Derived.Test.YtjbocoheognneaaLays
import Derived.Test.YtjbocoheognneaaTurns
import Derived.Test.YtjbocoheognneaaRefPg
import Derived.Test.YtjbocoheognneaaRefRd
import Derived.Test.YtjbocoheognneaaRefTk
import Derived.Test.YtjbocoheognneaaRefLays
import Derived.Test.YtjbocoheognneaaRefTurns
import Derived.Test.YtjbocoheognneaaNews
import Derived.Test.YtjbocoheognneaaGoods
import Derived.Test.YtjbocoheognneaaSameP
import Derived.Test.YtjbocoheognneaaPlain
import Derived.Test.YtjbocoheognneaaNeeds
import Derived.Test.YtjbocoheognneaaPlace
import Derived.Test.YtjbocoheognneaaPlaces
import Derived.Test.YtjbocoheognneaaFetch
import Derived.Test.YtjbocoheognneaaFetches
import Derived.Test.YtjbocoheognneaaFetched
import Derived.Test.YtjbocoheognneaaRelease
import Derived.Test.YtjbocoheognneaaRefRel
import Derived.Test.YtjbocoheognneaaMany
import Derived.Test.YtjbocoheognneaaOpenOps
import Derived.Test.YtjbocoheognneaaInvIn
import Derived.Test.YtjbocoheognneaaPutReg
import Derived.Test.YtjbocoheognneaaTwice
import Derived.Test.YtjbocoheognneaaRegPl
import Derived.Test.YtjbocoheognneaaRegFe
import Derived.Test.YtjbocoheognneaaRegRl
import Derived.Test.YtjbocoheognneaaCopies
import Derived.WalkKit
import Derived.ProofKit
import Derived.OpenShut
import Derived.ChangeOld
import Derived.Below
import Derived.WalkLawsBesides
import Derived.ChangeMaps5
import Derived.Deep.QuietTactic
import Derived.BigQuiet
import Derived.OwnWalk
import Derived.Deep.RegionHeld3
import Derived.RangeFuncBox
import Derived.SizedLaws
namespace Go.Proofs.Ytjbocoheognneaa.pagedDoes
open Go.ChangeShapes Go.WideShapes Go.ChangeAt Go.RowKit
set_option linter.unusedVariables false
set_option linter.unusedSimpArgs false

theorem own : ownKnob Try.prog.godebug = none := by kernel_rfl
theorem laidOut : laidOutB Try.prog = true := by kernel_rfl


set_option maxHeartbeats 8000000 in
set_option maxRecDepth 20000 in
theorem walk (a0 : Int) (a1 : Option Addr) (n1 c1 : Nat) (O1 : Nat → OpV) (w : World) (w0 : (Lit.int .i64 a0).wf = true) (w1 : OpsAt w a1 n1 O1) (e1 : a1 = none → c1 = 0) (l1 : n1 ≤ c1) (b1 : ∀ i, i < n1 → (O1 i).zw.length ≤ 140737488351232) :
    Calls Try.prog 3 #[.int .i64 a0, .slice a1 n1 c1] w fun e w' => e = .returned (.bool true) ∧ Below w.heap.size w w' := by
  have hm1 := w1.max
  obtain ⟨M, hM, (eM : (IntKind.u64.wrap a0).tmod 40 = (M : Int)), (eM' : IntKind.u64.wrap a0 % 40 = (M : Int))⟩ := restN a0 40 (by decide)
  obtain ⟨N, eN⟩ : ∃ N : Nat, 1 + M = N := ⟨_, rfl⟩
  have eN' : (1 : Int) + (M : Int) = (N : Int) := by omega
  have hN : 1 ≤ N ∧ N ≤ 40 := by omega
  clear eN
  have k6 := new_call N (by omega) (by omega)
  have k7 := refNew_call N (by omega) (by omega)
  have hG0 := hidden_ (good_new N 5 (by omega) (by omega))
  have hops := hidden_ w1
  have hbz := hidden_ b1
  clear w1 b1
  go_enter Try.func3, Try.ntmps3
  go_wp2_with (first
    | (go_at_call 6; refine (k6 _).mono ?_; rintro e W1 ⟨rfl, hp', hbl⟩; clear k6; have hp := hidden_ (hp' _ (Nat.le_refl _)); have hb := hidden_ hbl; clear hp' hbl)
    | (go_at_call 7; refine (k7 _).mono ?_; rintro e W2 ⟨rfl, hr', hbl⟩; clear k7; have hr := hidden_ (hr' _ hb.out.size); replace hp := hidden_ (hp.out.below hbl); replace hb := hidden_ (below_then hb.out hbl); clear hr' hbl))
  obtain ⟨b, eb⟩ : ∃ b, w.heap.size + 1 = b := ⟨_, rfl⟩
  obtain ⟨b', eb'⟩ : ∃ b', W1.heap.size + 1 = b' := ⟨_, rfl⟩
  rw [eb] at hp
  rw [eb'] at hr
  rw [eb, eb']
  obtain ⟨g, eg⟩ : ∃ g, g = w.heap.size := ⟨_, rfl⟩
  obtain ⟨g', eg'⟩ : ∃ g', g' = W1.heap.size := ⟨_, rfl⟩
  have hbo : Hid (Both w.heap.size W2 b g b' g' (newPl N)) := ⟨by rw [eg]; exact hp.out, ⟨_, by rw [eg']; exact hr.out⟩⟩
  clear hp hr eb eb' eg eg' eM eM' eN'
  go_loopw [9] (fun i wr => ∃ k : Nat, k ≤ n1 ∧ k ≤ 50 ∧ i = .int .i64 k ∧ (∃ s, Good (k + 5) s ∧ Both w.heap.size wr b g b' g' s) ∧ Below w.heap.size w wr) (fun i _ => n1 - (intOf i).toNat)
  case atStart => exact ⟨0, Nat.zero_le _, Nat.zero_le _, rfl, ⟨_, hG0.out, hbo.out⟩, hb.out⟩
  case round =>
    clear hbo hb hG0
    obtain ⟨k, hk, hk', rfl, ⟨s, hG, hB⟩, hb'⟩ := hrel
    by_cases hlt : k < n1 ∧ k < 50
    · obtain ⟨y1, y2⟩ := hlt
      have y1' : (k : Int) < (n1 : Int) := by omega
      have y2' : (k : Int) < 50 := by omega
      obtain ⟨x, rfl⟩ := hops.out.some_ (by omega)
      have cl := (hops.out.below hb').cell x rfl k y1
      have hok := hops.out.ok k y1
      have hzw := hbz.out k y1
      obtain ⟨P, eP⟩ : ∃ P, x.add (k * 6) = P := ⟨_, rfl⟩
      rw [eP] at cl
      obtain ⟨d0, d1, d2, d3, d4, d5⟩ := cl
      obtain ⟨o, eo⟩ : ∃ o, O1 k = o := ⟨_, rfl⟩
      rw [eo] at d0 d1 d2 d3 d4 d5 hok hzw
      clear eo
      have hA := below_new (Below.refl wr.heap.size wr) (.cells (boxC o) 34)
      have hbx := BoxO.new wr o
      have hBA := hB.below hA
      have hbA := below_then hb' hA
      obtain ⟨A, eA⟩ : ∃ A, wr.alloc (.cells (boxC o) 34) = A := ⟨_, rfl⟩
      rw [eA] at hbx hBA hbA
      have hwn := hok.wn
      have hwn' : -9223372036854775808 ≤ o.n ∧ o.n ≤ 9223372036854775807 := by simpa [Lit.wf, IntKind.min, IntKind.max, IntKind.signed, IntKind.bits] using hwn
      have k8 := need_call o.n hwn'.2 hwn'.1
      have k9 := refNeed_call o.n hwn'.2 hwn'.1
      obtain ⟨ND, eND⟩ : ∃ ND, needZ o.n = ND := ⟨_, rfl⟩
      rw [eND] at k8 k9
      have kk : Hid (∀ (W : World) (s' : Pl), Both w.heap.size W b g b' g' s' → Good (k + 6) s' → Calls Try.prog 22 #[.pointer (some ⟨b, 0, none⟩), .pointer (some ⟨b', 0, none⟩)] W fun e w' => e = .returned (.bool true) ∧ ∃ m', w' = W.drewN m') := fun W s' q hg => by
        obtain ⟨q1, ⟨r1, q2⟩⟩ := q
        exact samePools_call q1 q2 hg
      obtain ⟨ok, ot, ⟨wa, wn, wc⟩, zw, ⟨pa, pn, pc⟩, zp, on, ov⟩ := o
      have d1' : wr.cell? ⟨P.block, P.off + 1, none⟩ = some (.string ot) := d1
      have d2' : wr.cell? ⟨P.block, P.off + 2, none⟩ = some (.slice wa wn wc) := d2
      have d3' : wr.cell? ⟨P.block, P.off + 3, none⟩ = some (.slice pa pn pc) := d3
      have d4' : wr.cell? ⟨P.block, P.off + 4, none⟩ = some (.int .i64 on) := d4
      have d5' : wr.cell? ⟨P.block, P.off + 5, none⟩ = some (.int .i64 ov) := d5
      obtain ⟨c0, c1, c2, c3, c4, c5⟩ := hbx.cells
      simp only at d0 c0 c1 c2 c3 c4 c5 k8 k9 hwn' hzw
      simp only [boxC] at eA
      have hrW : Reads .i8 w wa wn zw := hok.rw_
      have hrP : Reads .i64 w pa pn zp := hok.rp
      have hpmax := hrP.max
      have HD := hidden_ (And.intro hG (And.intro hBA (And.intro hbA (And.intro hbx (And.intro hrW (And.intro hrP (And.intro hwn' hzw)))))))
      clear d1 d2 d3 d4 d5 eND hok hwn hG hB hb' hA hbx hBA hbA hrW hrP hwn' hzw
      have v0 : (ND != ND) = false := by simp
      by_cases h100 : 100 < pn
      · have h100' : (100 : Int) < (pn : Int) := by omega
        go_wp2
        go_quiet (fail)
        go_wp2
        go_ret
        exact ⟨by simp, below_drew HD.out.2.2.1 ⟨_, rfl⟩⟩
      have h100' : ¬ (100 : Int) < (pn : Int) := by omega
      have h100b : pn ≤ 100 := by omega
      by_cases q0 : ok = 0
      · subst q0
        go_wp2
        go_quiet (first | (go_at_call 8; exact Calls.quiet_of_same (k8 _)) | (go_at_call 9; exact Calls.quiet_of_same (k9 _)))
        go_wp2
        obtain ⟨V0, eV0⟩ : ∃ V0, A.drewN nq = V0 := ⟨_, rfl⟩
        have hV : Below A.heap.size A V0 := by rw [← eV0]; exact below_drew (Below.refl _ _) ⟨nq, rfl⟩
        rw [eV0]
        obtain ⟨hG, hBA, hbA, hbx, hrW, hrP, hwn', hzw⟩ := HD.out
        have hbV := below_then hbA hV
        have hBV := hBA.below hV
        have hxV := hbx.below hV
        obtain ⟨ca, cc, V2, hcp, hrow, hbw⟩ := run_copyB V0.drew 31 wa wn wc zw ((hrW.below hbV).drewN 1) (by rw [hrW.len] at hzw; omega)
        have hbw' : Below V0.heap.size V0 V2 := ⟨hbw.os, hbw.tape, hbw.output, hbw.size, hbw.block⟩
        have hB2 := hBV.below hbw'
        have hx2 := hxV.below hbw'
        have hb2 := below_then hbV hbw'
        have kc := (placed_call hB2.1 hG (by omega) ot ca wn cc zw (fun w' f => (hrow.off f rfl).reads)).mono (R' := fun e w' => ∃ qa ql qc, e = .returned (.tuple #[.slice qa ql qc, .int .i64 (placeE s ot zw)]) ∧ (RowI V2.heap.size w' qa ql qc (placeR s ot zw) ∧ PoolAt w.heap.size w' b g (placeS s ot zw) ∧ Off w.heap.size TP V2 w') ∧ BoxO w' wr.heap.size ⟨0, ot, ⟨wa, wn, wc⟩, zw, ⟨pa, pn, pc⟩, zp, on, ov⟩) (fun e w' ⟨qa, ql, qc, h1, h2, h3, h4⟩ => ⟨qa, ql, qc, h1, ⟨h2, h3, h4⟩, hx2.off h4 rfl⟩)
        have HS := hidden_ (And.intro (hG.placeS (by omega) ot zw) (And.intro hB2.2 (And.intro hb2 (And.intro hG hrW))))
        obtain ⟨S1, eS1⟩ : ∃ S1, placeS s ot zw = S1 := ⟨_, rfl⟩
        obtain ⟨R1, eR1⟩ : ∃ R1, placeR s ot zw = R1 := ⟨_, rfl⟩
        obtain ⟨E1, eE1⟩ : ∃ E1, placeE s ot zw = E1 := ⟨_, rfl⟩
        have HE := hidden_ (And.intro eS1 (And.intro eR1 eE1))
        simp only [eS1, eR1, eE1] at kc
        rw [eS1] at HS
        clear eS1 eR1 eE1
        have hxD : BoxO V0.drew wr.heap.size ⟨0, ot, ⟨wa, wn, wc⟩, zw, ⟨pa, pn, pc⟩, zp, on, ov⟩ := hxV
        have hxD1 : BoxO (V0.drew.alloc (.cells #[] 67)) wr.heap.size ⟨0, ot, ⟨wa, wn, wc⟩, zw, ⟨pa, pn, pc⟩, zp, on, ov⟩ := hxD.below (below_new (Below.refl _ _) _)
        refine pl_region b ⟨wr.heap.size, 0, none⟩ V0.heap.size ot wa wn wc ca wn cc E1 (fun qa ql qc W => RowI V2.heap.size W qa ql qc R1 ∧ PoolAt w.heap.size W b g S1 ∧ Off w.heap.size TP V2 W) V2 (fun W => BoxO W wr.heap.size ⟨0, ot, ⟨wa, wn, wc⟩, zw, ⟨pa, pn, pc⟩, zp, on, ov⟩) (fun W => BoxO W wr.heap.size ⟨0, ot, ⟨wa, wn, wc⟩, zw, ⟨pa, pn, pc⟩, zp, on, ov⟩) (fun _ => True) (by kernel_rfl) rfl ⟨_, rfl, rfl, rfl, rfl, by kernel_rfl⟩ ⟨_, rfl, rfl, rfl, rfl, by kernel_rfl⟩ ⟨_, rfl, rfl, rfl, rfl, by kernel_rfl⟩ ⟨_, rfl, rfl, rfl, rfl, by kernel_rfl⟩ ⟨_, rfl, rfl, rfl, rfl, by kernel_rfl⟩ ⟨_, rfl, rfl, rfl, rfl, by kernel_rfl⟩ ⟨_, rfl, rfl, rfl, rfl, by kernel_rfl⟩ ⟨_, rfl, rfl, rfl, rfl, by kernel_rfl⟩ ⟨_, rfl, rfl, rfl, rfl, by kernel_rfl⟩ ⟨_, rfl, rfl, rfl, rfl, by kernel_rfl⟩ ⟨_, rfl, rfl, rfl, rfl, by kernel_rfl⟩ ⟨_, rfl, rfl, rfl, rfl, by kernel_rfl⟩ ⟨_, rfl, rfl, rfl, rfl, by kernel_rfl⟩ 31 (fun o h => by cases h; rfl) hxD hxD1 hx2 (fun _ h => h) rfl rfl rfl (fun W h => run_load9 h.cells.2.1) (fun W h => run_load31 h.cells.2.2.1) hcp kc (Nat.le_of_ble_eq_true rfl) ?_
        · intro a W3 hs hd hkp hval hx3
          obtain ⟨qa, ql, qc, e11, hq1, hq2, hq3⟩ : ∃ qa ql qc, a.tmps.getD 11 undef = .slice qa ql qc ∧ RowI V2.heap.size W3 qa ql qc R1 ∧ PoolAt w.heap.size W3 b g S1 ∧ Off w.heap.size TP V2 W3 := hval 11 11 (by decide) rfl
          have e12 : a.tmps.getD 12 undef = .int .i64 E1 := hval 12 12 (by decide) rfl
          have ep := frame_puts [76, 77, 78, 79, 80, 81, 82, 83, 75, 84, 85, 11, 12] hs hd (fun s h => hkp s (fun i hi e => h (by
            rcases (show i = 0 ∨ i = 1 ∨ i = 2 ∨ i = 3 ∨ i = 4 ∨ i = 5 ∨ i = 6 ∨ i = 7 ∨ i = 8 ∨ i = 9 ∨ i = 10 ∨ i = 11 ∨ i = 12 by omega) with rfl | rfl | rfl | rfl | rfl | rfl | rfl | rfl | rfl | rfl | rfl | rfl | rfl <;> (simp only [plD, Option.some.injEq] at e; subst e; simp))))
          simp only [List.foldl] at ep
          rw [e11] at ep
          rw [e12] at ep
          obtain ⟨f0, f1, f2, f3, f4, f5⟩ := hx3.cells
          simp only at f0 f1 f2 f3 f4 f5
          obtain ⟨hGS, ⟨r2, hR2⟩, hb2, hG, hrW⟩ := HS.out
          have hb3 : Below w.heap.size w W3 := hb2.trans (hq3.below hb2.size)
          have k11 := refPlaced_call (hR2.off hq3 rfl rfl rfl) hb3.size hG (by omega) ot wa wn wc zw (fun w' f => hrW.below (hb3.trans (f.below hb3.size)))
          rw [HE.out.1, HE.out.2.1, HE.out.2.2] at k11
          have H3 := hidden_ (And.intro hq1 (And.intro hq2 hb3))
          have kkk := fun W q => kk.out W S1 q (hGS.mono (by omega))
          have v1 : (E1 != E1) = false := by simp
          clear hs hd hkp hval hx3 hq1 hq2 hq3 hb2 hb3 hR2 hrW hG hGS e11 e12 kc k8 k9 hcp hbw hbw' hrow hxD hxD1 hx2 hB2 hxV hBV hbV hrP hzw hwn' hbA hBA hbx hV eV0 HS kk
          generalize a.tmps.getD 76 undef = g76 at ep
          generalize a.tmps.getD 77 undef = g77 at ep
          generalize a.tmps.getD 78 undef = g78 at ep
          generalize a.tmps.getD 79 undef = g79 at ep
          generalize a.tmps.getD 80 undef = g80 at ep
          generalize a.tmps.getD 81 undef = g81 at ep
          generalize a.tmps.getD 82 undef = g82 at ep
          generalize a.tmps.getD 83 undef = g83 at ep
          generalize a.tmps.getD 75 undef = g75 at ep
          generalize a.tmps.getD 84 undef = g84 at ep
          generalize a.tmps.getD 85 undef = g85 at ep
          simp only [Act.put, List.setIfInBounds_toArray, List.set_cons_succ, List.set_cons_zero] at ep
          subst ep
          go_wp2_with (first
            | (go_at_call 11; refine k11.mono ?_; rintro e W4 ⟨a4, l4, c4', rfl, hr4, ⟨r4, hR4⟩, ho4⟩; clear k11; have k12 := same_ints qa ql qc R1 a4 l4 c4' W4 (H3.out.1.off ho4 rfl).reads hr4.reads; have H4 := hidden_ (And.intro (H3.out.2.1.off ho4 rfl rfl) (And.intro hR4 (H3.out.2.2.trans (ho4.below H3.out.2.2.size)))); clear hr4 hR4 ho4)
            | (go_at_call 12; refine k12.mono ?_; rintro e W5 ⟨rfl, m5, h5⟩; clear k12; have hB5 : Both w.heap.size W5 b g b' g' S1 := (by rw [h5]; exact ⟨H4.out.1.drewN m5, ⟨_, H4.out.2.1.drewN m5⟩⟩); have k22 := kkk W5 hB5; have H5 := hidden_ (And.intro hB5 (below_drew H4.out.2.2 ⟨m5, h5⟩)); clear h5 hB5)
            | (go_at_call 22; refine k22.mono ?_; rintro e W6 ⟨rfl, m6, h6⟩; clear k22; have H6 := hidden_ h6; clear h6))
          go_roundw
          case rel =>
            obtain ⟨⟨p1, ⟨r1, p2⟩⟩, b5⟩ := H5.out
            exact ⟨k + 1, by omega, by omega, by go_num, ⟨S1, by rw [← HE.out.1]; exact (HD.out.1.placeS (by omega) ot zw).mono (by omega), by rw [H6.out]; exact ⟨p1.drewN _, ⟨r1, p2.drewN _⟩⟩⟩, below_drew b5 ⟨m6, H6.out⟩⟩
          case measure => simp [intOf]; omega
      by_cases q1 : ok = 1
      · subst q1
        go_wp2
        go_quiet (first | (go_at_call 8; exact Calls.quiet_of_same (k8 _)) | (go_at_call 9; exact Calls.quiet_of_same (k9 _)))
        go_wp2
        obtain ⟨V0, eV0⟩ : ∃ V0, A.drewN nq = V0 := ⟨_, rfl⟩
        have hV : Below A.heap.size A V0 := by rw [← eV0]; exact below_drew (Below.refl _ _) ⟨nq, rfl⟩
        rw [eV0]
        obtain ⟨hG, hBA, hbA, hbx, hrW, hrP, hwn', hzw⟩ := HD.out
        have hbV := below_then hbA hV
        have hBV := hBA.below hV
        have hxV := hbx.below hV
        obtain ⟨ca, cc, V2, hcp, hrow, hbw⟩ := run_copyI V0.drew 32 pa pn pc zp ((hrP.below hbV).drewN 1) (by omega)
        have hbw' : Below V0.heap.size V0 V2 := ⟨hbw.os, hbw.tape, hbw.output, hbw.size, hbw.block⟩
        have hB2 := hBV.below hbw'
        have hx2 := hxV.below hbw'
        have hb2 := below_then hbV hbw'
        have kc := (fetched_call hB2.1 hG ca pn cc zp hrow.reads (by omega) hrow.lt on hwn'.1 hwn'.2).mono (R' := fun e w' => ∃ qa ql qc, e = .returned (.tuple #[.slice qa ql qc, .int .i64 (fetchE s zp on)]) ∧ (RowB V2.heap.size w' qa ql qc (fetchR s zp on) ∧ PoolAt w.heap.size w' b g s ∧ Below V2.heap.size V2 w') ∧ BoxO w' wr.heap.size ⟨1, ot, ⟨wa, wn, wc⟩, zw, ⟨pa, pn, pc⟩, zp, on, ov⟩) (fun e w' ⟨qa, ql, qc, h1, h2, h3, h4⟩ => ⟨qa, ql, qc, h1, ⟨h2, h3, h4⟩, hx2.below h4⟩)
        have HS := hidden_ (And.intro hB2.2 (And.intro hb2 (And.intro hG (And.intro hrP hwn'))))
        obtain ⟨R1, eR1⟩ : ∃ R1, fetchR s zp on = R1 := ⟨_, rfl⟩
        obtain ⟨E1, eE1⟩ : ∃ E1, fetchE s zp on = E1 := ⟨_, rfl⟩
        have HE := hidden_ (And.intro eR1 eE1)
        simp only [eR1, eE1] at kc
        clear eR1 eE1
        have hxD : BoxO V0.drew wr.heap.size ⟨1, ot, ⟨wa, wn, wc⟩, zw, ⟨pa, pn, pc⟩, zp, on, ov⟩ := hxV
        have hxD1 : BoxO (V0.drew.alloc (.cells #[] 3)) wr.heap.size ⟨1, ot, ⟨wa, wn, wc⟩, zw, ⟨pa, pn, pc⟩, zp, on, ov⟩ := hxD.below (below_new (Below.refl _ _) _)
        refine fe_region b ⟨wr.heap.size, 0, none⟩ V0.heap.size on pa pn pc ca pn cc E1 (fun qa ql qc W => RowB V2.heap.size W qa ql qc R1 ∧ PoolAt w.heap.size W b g s ∧ Below V2.heap.size V2 W) V2 (fun W => BoxO W wr.heap.size ⟨1, ot, ⟨wa, wn, wc⟩, zw, ⟨pa, pn, pc⟩, zp, on, ov⟩) (fun W => BoxO W wr.heap.size ⟨1, ot, ⟨wa, wn, wc⟩, zw, ⟨pa, pn, pc⟩, zp, on, ov⟩) (fun _ => True) (by kernel_rfl) rfl ⟨_, rfl, rfl, rfl, rfl, by kernel_rfl⟩ ⟨_, rfl, rfl, rfl, rfl, by kernel_rfl⟩ ⟨_, rfl, rfl, rfl, rfl, by kernel_rfl⟩ ⟨_, rfl, rfl, rfl, rfl, by kernel_rfl⟩ ⟨_, rfl, rfl, rfl, rfl, by kernel_rfl⟩ ⟨_, rfl, rfl, rfl, rfl, by kernel_rfl⟩ ⟨_, rfl, rfl, rfl, rfl, by kernel_rfl⟩ ⟨_, rfl, rfl, rfl, rfl, by kernel_rfl⟩ ⟨_, rfl, rfl, rfl, rfl, by kernel_rfl⟩ ⟨_, rfl, rfl, rfl, rfl, by kernel_rfl⟩ ⟨_, rfl, rfl, rfl, rfl, by kernel_rfl⟩ ⟨_, rfl, rfl, rfl, rfl, by kernel_rfl⟩ ⟨_, rfl, rfl, rfl, rfl, by kernel_rfl⟩ 32 (fun o h => by cases h; rfl) hxD hxD1 hx2 (fun _ h => h) rfl rfl rfl (fun W h => run_load32 h.cells.2.2.2.1) (fun W h => run_load3 h.cells.2.2.2.2.1) hcp kc (Nat.le_of_ble_eq_true rfl) ?_
        · intro a W3 hs hd hkp hval hx3
          obtain ⟨qa, ql, qc, e11, hq1, hq2, hq3⟩ : ∃ qa ql qc, a.tmps.getD 15 undef = .slice qa ql qc ∧ RowB V2.heap.size W3 qa ql qc R1 ∧ PoolAt w.heap.size W3 b g s ∧ Below V2.heap.size V2 W3 := hval 11 15 (by decide) rfl
          have e12 : a.tmps.getD 16 undef = .int .i64 E1 := hval 12 16 (by decide) rfl
          have ep := frame_puts [107, 108, 109, 110, 111, 112, 113, 114, 106, 115, 116, 15, 16] hs hd (fun s h => hkp s (fun i hi e => h (by
            rcases (show i = 0 ∨ i = 1 ∨ i = 2 ∨ i = 3 ∨ i = 4 ∨ i = 5 ∨ i = 6 ∨ i = 7 ∨ i = 8 ∨ i = 9 ∨ i = 10 ∨ i = 11 ∨ i = 12 by omega) with rfl | rfl | rfl | rfl | rfl | rfl | rfl | rfl | rfl | rfl | rfl | rfl | rfl <;> (simp only [feD, Option.some.injEq] at e; subst e; simp))))
          simp only [List.foldl] at ep
          rw [e11] at ep
          rw [e12] at ep
          obtain ⟨f0, f1, f2, f3, f4, f5⟩ := hx3.cells
          simp only at f0 f1 f2 f3 f4 f5
          obtain ⟨⟨r2, hR2⟩, hb2, hG, hrP, hwn'⟩ := HS.out
          have hb3 : Below w.heap.size w W3 := below_then hb2 hq3
          have k14 := refFetched_call (hR2.below hq3) hG pa pn pc zp (hrP.below hb3) (by omega) on hwn'.1 hwn'.2
          rw [HE.out.1, HE.out.2] at k14
          have H3 := hidden_ (And.intro hq1 (And.intro hq2 hb3))
          have kkk := fun W q => kk.out W s q (hG.mono (by omega))
          have v1 : (E1 != E1) = false := by simp
          clear hs hd hkp hval hx3 hq1 hq2 hq3 hb2 hb3 hR2 hrW hG e11 e12 kc k8 k9 hcp hbw hbw' hrow hxD hxD1 hx2 hB2 hxV hBV hbV hrP hzw hwn' hbA hBA hbx hV eV0 HS kk
          generalize a.tmps.getD 107 undef = g107 at ep
          generalize a.tmps.getD 108 undef = g108 at ep
          generalize a.tmps.getD 109 undef = g109 at ep
          generalize a.tmps.getD 110 undef = g110 at ep
          generalize a.tmps.getD 111 undef = g111 at ep
          generalize a.tmps.getD 112 undef = g112 at ep
          generalize a.tmps.getD 113 undef = g113 at ep
          generalize a.tmps.getD 114 undef = g114 at ep
          generalize a.tmps.getD 106 undef = g106 at ep
          generalize a.tmps.getD 115 undef = g115 at ep
          generalize a.tmps.getD 116 undef = g116 at ep
          simp only [Act.put, List.setIfInBounds_toArray, List.set_cons_succ, List.set_cons_zero] at ep
          subst ep
          go_wp2_with (first
            | (go_at_call 14; refine k14.mono ?_; rintro e W4 ⟨a4, l4, c4', rfl, hr4, hR4, ho4⟩; clear k14; have k15 := same_bytes qa ql qc R1 a4 l4 c4' W4 ((H3.out.1.off (Off.of_below (B := 0) (T := fun _ => false) ho4) rfl).reads) hr4.reads; have H4 := hidden_ (And.intro (H3.out.2.1.below ho4) (And.intro hR4 (below_then H3.out.2.2 ho4))); clear hr4 hR4 ho4)
            | (go_at_call 15; refine k15.mono ?_; rintro e W5 ⟨rfl, m5, h5⟩; clear k15; have hB5 : Both w.heap.size W5 b g b' g' s := (by rw [h5]; exact ⟨H4.out.1.drewN m5, ⟨_, H4.out.2.1.drewN m5⟩⟩); have k22 := kkk W5 hB5; have H5 := hidden_ (And.intro hB5 (below_drew H4.out.2.2 ⟨m5, h5⟩)); clear h5 hB5)
            | (go_at_call 22; refine k22.mono ?_; rintro e W6 ⟨rfl, m6, h6⟩; clear k22; have H6 := hidden_ h6; clear h6))
          go_roundw
          case rel =>
            obtain ⟨⟨p1, ⟨r1, p2⟩⟩, b5⟩ := H5.out
            exact ⟨k + 1, by omega, by omega, by go_num, ⟨s, HD.out.1.mono (by omega), by rw [H6.out]; exact ⟨p1.drewN _, ⟨r1, p2.drewN _⟩⟩⟩, below_drew b5 ⟨m6, H6.out⟩⟩
          case measure => simp [intOf]; omega
      by_cases q2 : ok = 2
      · subst q2
        go_wp2
        go_quiet (first | (go_at_call 8; exact Calls.quiet_of_same (k8 _)) | (go_at_call 9; exact Calls.quiet_of_same (k9 _)))
        go_wp2
        obtain ⟨V0, eV0⟩ : ∃ V0, A.drewN nq = V0 := ⟨_, rfl⟩
        have hV : Below A.heap.size A V0 := by rw [← eV0]; exact below_drew (Below.refl _ _) ⟨nq, rfl⟩
        rw [eV0]
        obtain ⟨hG, hBA, hbA, hbx, hrW, hrP, hwn', hzw⟩ := HD.out
        have hbV := below_then hbA hV
        have hBV := hBA.below hV
        have hxV := hbx.below hV
        obtain ⟨ca, cc, V2, hcp, hrow, hbw⟩ := run_copyI V0.drew 32 pa pn pc zp ((hrP.below hbV).drewN 1) (by omega)
        have hbw' : Below V0.heap.size V0 V2 := ⟨hbw.os, hbw.tape, hbw.output, hbw.size, hbw.block⟩
        have hB2 := hBV.below hbw'
        have hx2 := hxV.below hbw'
        have hb2 := below_then hbV hbw'
        obtain ⟨S1, eS1⟩ : ∃ S1, relS s zp = S1 := ⟨_, rfl⟩
        obtain ⟨E1, eE1⟩ : ∃ E1, relE s zp = E1 := ⟨_, rfl⟩
        have HE := hidden_ (And.intro eS1 eE1)
        obtain ⟨r2, hR2⟩ := hB2.2
        have kc0 := release_call hB2.1 hG (by omega) ca pn cc zp (fun w' f => (hrow.off f rfl).reads) (by omega)
        rw [eS1, eE1] at kc0
        have kc := kc0.mono (R' := fun e w' => e = .returned (.int .i64 E1) ∧ (PoolAt w.heap.size w' b g S1 ∧ RefAt w.heap.size w' b' g' s r2 ∧ BoxO w' wr.heap.size ⟨2, ot, ⟨wa, wn, wc⟩, zw, ⟨pa, pn, pc⟩, zp, on, ov⟩ ∧ Below w.heap.size w w')) (fun e w' ⟨h1, h2, h3⟩ => ⟨h1, h2, hR2.off h3 rfl rfl rfl, hx2.off h3 rfl, hb2.trans (h3.below hb2.size)⟩)
        have kd : ∀ W, (PoolAt w.heap.size W b g S1 ∧ RefAt w.heap.size W b' g' s r2 ∧ BoxO W wr.heap.size ⟨2, ot, ⟨wa, wn, wc⟩, zw, ⟨pa, pn, pc⟩, zp, on, ov⟩ ∧ Below w.heap.size w W) → Calls Try.prog 17 #[.pointer (some ⟨b', 0, none⟩), .slice pa pn pc] W fun e w' => e = .returned (.int .i64 E1) ∧ (Both w.heap.size w' b g b' g' S1 ∧ Below w.heap.size w w') := fun W q => by
          have := refRelease_call q.2.1 hG (by omega) pa pn pc zp (fun w' f => hrP.below (q.2.2.2.trans (f.below q.2.2.2.size))) (by omega)
          rw [eS1, eE1] at this
          exact this.mono (fun e w' ⟨h1, h2, h3⟩ => ⟨h1, ⟨q.1.off h3 rfl rfl, h2⟩, q.2.2.2.trans (h3.below q.2.2.2.size)⟩)
        have hGS := hG.relS zp
        rw [eS1] at hGS
        clear eS1 eE1 kc0
        have hxD : BoxO V0.drew wr.heap.size ⟨2, ot, ⟨wa, wn, wc⟩, zw, ⟨pa, pn, pc⟩, zp, on, ov⟩ := hxV
        have hxD1 : BoxO (V0.drew.alloc (.cells #[] 3)) wr.heap.size ⟨2, ot, ⟨wa, wn, wc⟩, zw, ⟨pa, pn, pc⟩, zp, on, ov⟩ := hxD.below (below_new (Below.refl _ _) _)
        refine rl_region b b' ⟨wr.heap.size, 0, none⟩ V0.heap.size pa pn pc ca pn cc E1 E1 V2 (fun W => BoxO W wr.heap.size ⟨2, ot, ⟨wa, wn, wc⟩, zw, ⟨pa, pn, pc⟩, zp, on, ov⟩) (fun W => PoolAt w.heap.size W b g S1 ∧ RefAt w.heap.size W b' g' s r2 ∧ BoxO W wr.heap.size ⟨2, ot, ⟨wa, wn, wc⟩, zw, ⟨pa, pn, pc⟩, zp, on, ov⟩ ∧ Below w.heap.size w W) (fun W => Both w.heap.size W b g b' g' S1 ∧ Below w.heap.size w W) (by kernel_rfl) rfl ⟨_, rfl, rfl, rfl, rfl, by kernel_rfl⟩ ⟨_, rfl, rfl, rfl, rfl, by kernel_rfl⟩ ⟨_, rfl, rfl, rfl, rfl, by kernel_rfl⟩ ⟨_, rfl, rfl, rfl, rfl, by kernel_rfl⟩ ⟨_, rfl, rfl, rfl, rfl, by kernel_rfl⟩ ⟨_, rfl, rfl, rfl, rfl, by kernel_rfl⟩ ⟨_, rfl, rfl, rfl, rfl, by kernel_rfl⟩ ⟨_, rfl, rfl, rfl, rfl, by kernel_rfl⟩ ⟨_, rfl, rfl, rfl, rfl, by kernel_rfl⟩ ⟨_, rfl, rfl, rfl, rfl, by kernel_rfl⟩ ⟨_, rfl, rfl, rfl, rfl, by kernel_rfl⟩ 32 (fun o h => by cases h; rfl) hxD hxD1 hx2 (fun _ h => h.2.2.1) rfl rfl rfl rfl (fun W h => run_load32 h.cells.2.2.2.1) hcp kc kd (Nat.le_of_ble_eq_true rfl) ?_
        · intro a W3 hs hd hkp hval hp2
          have e147 : a.tmps.getD 147 undef = .bool false := by
            have : a.tmps.getD 147 undef = .bool (E1 != E1) := hval 10 147 (by decide) rfl
            rw [this]
            simp
          have ep := frame_puts [137, 138, 139, 140, 141, 142, 143, 144, 145, 146, 147] hs hd (fun s h => hkp s (fun i hi e => h (by
            rcases (show i = 0 ∨ i = 1 ∨ i = 2 ∨ i = 3 ∨ i = 4 ∨ i = 5 ∨ i = 6 ∨ i = 7 ∨ i = 8 ∨ i = 9 ∨ i = 10 by omega) with rfl | rfl | rfl | rfl | rfl | rfl | rfl | rfl | rfl | rfl | rfl <;> (simp only [rlD, Option.some.injEq] at e; subst e; simp))))
          simp only [List.foldl] at ep
          rw [e147] at ep
          have k22 := kk.out W3 S1 hp2.1 (hGS.mono (by omega))
          have H5 := hidden_ (And.intro hp2 hGS)
          clear hs hd hkp hval hp2 hb2 hR2 hrW hG hGS e147 kc kd k8 k9 hcp hbw hbw' hrow hxD hxD1 hx2 hB2 hxV hBV hbV hrP hzw hwn' hbA hBA hbx hV eV0 kk
          generalize a.tmps.getD 137 undef = g137 at ep
          generalize a.tmps.getD 138 undef = g138 at ep
          generalize a.tmps.getD 139 undef = g139 at ep
          generalize a.tmps.getD 140 undef = g140 at ep
          generalize a.tmps.getD 141 undef = g141 at ep
          generalize a.tmps.getD 142 undef = g142 at ep
          generalize a.tmps.getD 143 undef = g143 at ep
          generalize a.tmps.getD 144 undef = g144 at ep
          generalize a.tmps.getD 145 undef = g145 at ep
          generalize a.tmps.getD 146 undef = g146 at ep
          simp only [Act.put, List.setIfInBounds_toArray, List.set_cons_succ, List.set_cons_zero] at ep
          subst ep
          go_wp2_with (first
            | (go_at_call 22; refine k22.mono ?_; rintro e W6 ⟨rfl, m6, h6⟩; clear k22; have H6 := hidden_ h6; clear h6))
          go_roundw
          case rel =>
            obtain ⟨⟨⟨p1, ⟨r1, p2⟩⟩, b5⟩, hGS⟩ := H5.out
            exact ⟨k + 1, by omega, by omega, by go_num, ⟨S1, hGS.mono (by omega), by rw [H6.out]; exact ⟨p1.drewN _, ⟨r1, p2.drewN _⟩⟩⟩, below_drew b5 ⟨m6, H6.out⟩⟩
          case measure => simp [intOf]; omega
      by_cases q3 : ok = 3
      · subst q3
        go_wp2
        go_quiet (first | (go_at_call 8; exact Calls.quiet_of_same (k8 _)) | (go_at_call 9; exact Calls.quiet_of_same (k9 _)))
        go_wp2
        obtain ⟨V0, eV0⟩ : ∃ V0, A.drewN nq = V0 := ⟨_, rfl⟩
        have hV : Below A.heap.size A V0 := by rw [← eV0]; exact below_drew (Below.refl _ _) ⟨nq, rfl⟩
        rw [eV0]
        obtain ⟨hG, hBA, hbA, hbx, hrW, hrP, hwn', hzw⟩ := HD.out
        have hbV := below_then hbA hV
        have hBV := hBA.below hV
        have hxV := hbx.below hV
        have kP := fun (W : World) (q : PoolAt w.heap.size W b g s) => share_call q hG (by omega) on
        have kR := fun (W : World) (r : Nat → Nat) (q : RefAt w.heap.size W b' g' s r) => refShare_call q hG (by omega) on
        obtain ⟨E1, eE1⟩ : ∃ E1, shE s on = E1 := ⟨_, rfl⟩
        obtain ⟨S1, eS1⟩ : ∃ S1, shS s on = S1 := ⟨_, rfl⟩
        simp only [eE1, eS1] at kP kR
        have hGS : Good (k + 6) S1 := by rw [← eS1]; exact hG.shS on
        clear eE1 eS1
        have f4 := hxV.cells.2.2.2.2.1
        have f5 := hxV.cells.2.2.2.2.2
        simp only at f4 f5
        have hpD : Hid (PoolAt w.heap.size V0.drew b g s) := hBV.1.drewN 1
        have key : Hid (∀ W, Off w.heap.size TP V0.drew W → BoxO W wr.heap.size ⟨3, ot, ⟨wa, wn, wc⟩, zw, ⟨pa, pn, pc⟩, zp, on, ov⟩ ∧ (∃ r, RefAt w.heap.size W b' g' s r) ∧ Below w.heap.size w W) := fun W q => by
          have q' : Off w.heap.size TP V0 W := ⟨q.os, q.tape, q.output, q.size, q.block⟩
          obtain ⟨r, hr⟩ := hBV.2
          exact ⟨hxV.off q' rfl, ⟨r, hr.off q' rfl rfl rfl⟩, hbV.trans (q'.below hbV.size)⟩
        have key2 : Hid (∀ W W' : World, BoxO W wr.heap.size ⟨3, ot, ⟨wa, wn, wc⟩, zw, ⟨pa, pn, pc⟩, zp, on, ov⟩ → PoolAt w.heap.size W b g S1 → Below w.heap.size w W → Off w.heap.size TR W W' → BoxO W' wr.heap.size ⟨3, ot, ⟨wa, wn, wc⟩, zw, ⟨pa, pn, pc⟩, zp, on, ov⟩ ∧ PoolAt w.heap.size W' b g S1 ∧ Below w.heap.size w W') := fun W W' q1 q2 q3 q4 => ⟨q1.off q4 rfl, q2.off q4 rfl rfl, q3.trans (q4.below q3.size)⟩
        have HGS := hidden_ hGS
        have kkk := kk
        clear hGS kk k8 k9 hxV hBV hbV hrP hrW hzw hwn' hbA hBA hbx hV eV0 hG
        go_region_held3 (fun W => W.cell? ⟨wr.heap.size, 4, none⟩ = some (.int .i64 on)) (first | assumption | (exact f4) | exact d9) (first
          | (go_at_call 18; refine (kP _ hpD.out).mono ?_; rintro e W2 ⟨rfl, q1, o1⟩; obtain ⟨bx, ⟨rr0, rr⟩, of⟩ := key.out W2 o1; have hq := hidden_ (And.intro q1 (And.intro rr (And.intro bx of))); have d9 := bx.cells.2.2.2.2.1; simp only at d9; clear q1 rr bx of o1)
          | (go_at_call 19; refine (kR _ _ hq.out.2.1).mono ?_; rintro e W3 ⟨rfl, r1, o2⟩; obtain ⟨bx2, pp, of2⟩ := key2.out _ W3 hq.out.2.2.1 hq.out.1 hq.out.2.2.2 o2; have hB3 : Both w.heap.size W3 b g b' g' S1 := ⟨pp, ⟨_, r1⟩⟩; have k22 := kkk.out W3 S1 hB3 HGS.out; have hq2 := hidden_ (And.intro hB3 of2); have d9 := bx2.cells.2.2.2.2.1; simp only at d9; clear bx2 pp of2 r1 o2 hB3))
        have v1 : (E1 != E1) = false := by simp
        clear kP kR key key2
        go_wp2_with (first
          | (go_at_call 22; refine k22.mono ?_; rintro e W6 ⟨rfl, m6, h6⟩; clear k22; have H6 := hidden_ h6; clear h6))
        go_roundw
        case rel =>
          obtain ⟨⟨p1, ⟨r1, p2⟩⟩, b5⟩ := hq2.out
          exact ⟨k + 1, by omega, by omega, by go_num, ⟨S1, HGS.out, by rw [H6.out]; exact ⟨p1.drewN _, ⟨r1, p2.drewN _⟩⟩⟩, below_drew b5 ⟨m6, H6.out⟩⟩
        case measure => simp [intOf]; omega
      by_cases q4 : ok = 4
      · subst q4
        go_wp2
        go_quiet (first | (go_at_call 8; exact Calls.quiet_of_same (k8 _)) | (go_at_call 9; exact Calls.quiet_of_same (k9 _)))
        go_wp2
        obtain ⟨V0, eV0⟩ : ∃ V0, A.drewN nq = V0 := ⟨_, rfl⟩
        have hV : Below A.heap.size A V0 := by rw [← eV0]; exact below_drew (Below.refl _ _) ⟨nq, rfl⟩
        rw [eV0]
        obtain ⟨hG, hBA, hbA, hbx, hrW, hrP, hwn', hzw⟩ := HD.out
        have hbV := below_then hbA hV
        have hBV := hBA.below hV
        have hxV := hbx.below hV
        have kP := fun (W : World) (q : PoolAt w.heap.size W b g s) => put_call q hG on 0 ov
        have kR := fun (W : World) (r : Nat → Nat) (q : RefAt w.heap.size W b' g' s r) => refPut_call q hG on 0 ov
        obtain ⟨E1, eE1⟩ : ∃ E1, getE s on 0 = E1 := ⟨_, rfl⟩
        obtain ⟨S1, eS1⟩ : ∃ S1, putS s on 0 ov = S1 := ⟨_, rfl⟩
        simp only [eE1, eS1] at kP kR
        have hGS : Good (k + 6) S1 := by rw [← eS1]; exact (hG.putS on 0 ov).mono (by omega)
        clear eE1 eS1
        have f4 := hxV.cells.2.2.2.2.1
        have f5 := hxV.cells.2.2.2.2.2
        simp only at f4 f5
        have hpD : Hid (PoolAt w.heap.size V0.drew b g s) := hBV.1.drewN 1
        have key : Hid (∀ W, Off w.heap.size TP V0.drew W → BoxO W wr.heap.size ⟨4, ot, ⟨wa, wn, wc⟩, zw, ⟨pa, pn, pc⟩, zp, on, ov⟩ ∧ (∃ r, RefAt w.heap.size W b' g' s r) ∧ Below w.heap.size w W) := fun W q => by
          have q' : Off w.heap.size TP V0 W := ⟨q.os, q.tape, q.output, q.size, q.block⟩
          obtain ⟨r, hr⟩ := hBV.2
          exact ⟨hxV.off q' rfl, ⟨r, hr.off q' rfl rfl rfl⟩, hbV.trans (q'.below hbV.size)⟩
        have key2 : Hid (∀ W W' : World, BoxO W wr.heap.size ⟨4, ot, ⟨wa, wn, wc⟩, zw, ⟨pa, pn, pc⟩, zp, on, ov⟩ → PoolAt w.heap.size W b g S1 → Below w.heap.size w W → Off w.heap.size TR W W' → BoxO W' wr.heap.size ⟨4, ot, ⟨wa, wn, wc⟩, zw, ⟨pa, pn, pc⟩, zp, on, ov⟩ ∧ PoolAt w.heap.size W' b g S1 ∧ Below w.heap.size w W') := fun W W' q1 q2 q3 q4 => ⟨q1.off q4 rfl, q2.off q4 rfl rfl, q3.trans (q4.below q3.size)⟩
        have HGS := hidden_ hGS
        have kkk := kk
        clear hGS kk k8 k9 hxV hBV hbV hrP hrW hzw hwn' hbA hBA hbx hV eV0 hG
        go_region_held3 (fun W => W.cell? ⟨wr.heap.size, 4, none⟩ = some (.int .i64 on) ∧ W.cell? ⟨wr.heap.size, 5, none⟩ = some (.int .i64 ov)) (first | assumption | (exact ⟨f4, f5⟩) | exact d9) (first
          | (go_at_call 20; refine (kP _ hpD.out).mono ?_; rintro e W2 ⟨rfl, q1, o1⟩; obtain ⟨bx, ⟨rr0, rr⟩, of⟩ := key.out W2 o1; have hq := hidden_ (And.intro q1 (And.intro rr (And.intro bx of))); have d9 := And.intro bx.cells.2.2.2.2.1 bx.cells.2.2.2.2.2; simp only at d9; clear q1 rr bx of o1)
          | (go_at_call 21; refine (kR _ _ hq.out.2.1).mono ?_; rintro e W3 ⟨rfl, r1, o2⟩; obtain ⟨bx2, pp, of2⟩ := key2.out _ W3 hq.out.2.2.1 hq.out.1 hq.out.2.2.2 o2; have hB3 : Both w.heap.size W3 b g b' g' S1 := ⟨pp, ⟨_, r1⟩⟩; have k22 := kkk.out W3 S1 hB3 HGS.out; have hq2 := hidden_ (And.intro hB3 of2); have d9 := And.intro bx2.cells.2.2.2.2.1 bx2.cells.2.2.2.2.2; simp only at d9; clear bx2 pp of2 r1 o2 hB3))
        have v1 : (E1 != E1) = false := by simp
        clear kP kR key key2
        go_wp2_with (first
          | (go_at_call 22; refine k22.mono ?_; rintro e W6 ⟨rfl, m6, h6⟩; clear k22; have H6 := hidden_ h6; clear h6))
        go_roundw
        case rel =>
          obtain ⟨⟨p1, ⟨r1, p2⟩⟩, b5⟩ := hq2.out
          exact ⟨k + 1, by omega, by omega, by go_num, ⟨S1, HGS.out, by rw [H6.out]; exact ⟨p1.drewN _, ⟨r1, p2.drewN _⟩⟩⟩, below_drew b5 ⟨m6, H6.out⟩⟩
        case measure => simp [intOf]; omega
      have e0 : (ok == 0) = false := by simp [q0]
      have e1 : (ok == 1) = false := by simp [q1]
      have e2 : (ok == 2) = false := by simp [q2]
      have e3 : (ok == 3) = false := by simp [q3]
      have e4 : (ok == 4) = false := by simp [q4]
      go_wp2
      go_quiet (first | (go_at_call 8; exact Calls.quiet_of_same (k8 _)) | (go_at_call 9; exact Calls.quiet_of_same (k9 _)))
      have hBq : Both w.heap.size (A.drewN nq) b g b' g' s := ⟨HD.out.2.1.1.drewN nq, by obtain ⟨r, hr⟩ := HD.out.2.1.2; exact ⟨r, hr.drewN nq⟩⟩
      have k22 := kk.out (A.drewN nq) s hBq (HD.out.1.mono (by omega))
      have H5 := hidden_ hBq
      clear kk hBq
      go_wp2_with (first
        | (go_at_call 22; refine k22.mono ?_; rintro e W6 ⟨rfl, m6, h6⟩; clear k22; have H6 := hidden_ h6; clear h6))
      go_roundw
      case rel =>
        obtain ⟨p1, ⟨r1, p2⟩⟩ := H5.out
        exact ⟨k + 1, by omega, by omega, by go_num, ⟨s, HD.out.1.mono (by omega), by rw [H6.out]; exact ⟨p1.drewN _, ⟨r1, p2.drewN _⟩⟩⟩, below_drew (below_drew HD.out.2.2.1 ⟨nq, rfl⟩) ⟨m6, H6.out⟩⟩
      case measure => simp [intOf]; omega
    · have HE := hidden_ hb'
      clear hG hB hb'
      by_cases hkn : (k : Int) < (n1 : Int)
      · have hk50 : ¬ (k : Int) < 50 := by omega
        go_wp2
        go_ret
        exact ⟨rfl, HE.out⟩
      · go_wp2
        go_ret
        exact ⟨rfl, HE.out⟩

theorem contract (H : Type) (enc : TypeId × Value → H) (W : World) (base : Nat) (args : Array Value) (ds gs : List (DataW H)) (before : List MemPlace)
    (hval0 : ∀ (j : Nat) t v, Try.f3.params[j]? = some t → args[j]? = some v → Value.okWide Try.prog W .any base t v)
    (hW : DataW.Whole enc Try.prog Try.f3.params.toList Rows.pagedDoesSpec.vars false W args.toList ds gs before)
    (hsz0 : (DataW.weightsEach Try.prog (Try.f3.params.toList ++ Rows.pagedDoesSpec.plain.varTypes Try.prog) (ds ++ gs)).all (· ≤ reachBytes) = true) :
    Calls Try.prog 3 args W fun e W' => ∃ v, e = .returned v ∧ Rows.pagedDoesSpec.post enc Try.prog Try.f3 false true false false W args v W' := by
  have hval : ∀ (j : Nat) t v, Try.f3.params[j]? = some t → args[j]? = some v → Value.okWide Try.prog W .any base t v := hval0
  have hW' := hW
  obtain ⟨p, q, hA0, hV, rfl, hfz, hnd⟩ := hW
  have hA : DataW.TrodAll enc Try.prog W 0 (fun _ => true) true Try.f3.params.toList args.toList ds p := hA0
  have hsz : (DataW.weightsEach Try.prog (Try.f3.params.toList ++ Rows.pagedDoesSpec.plain.varTypes Try.prog) (ds ++ gs)).all (· ≤ reachBytes) = true := hsz0
  rw [Try.params3] at hA hval hsz
  obtain ⟨v0, vs0, d0, ds0, p0, q0, hargs, rfl, rfl, h0, r0⟩ := trodAll_cons hA
  obtain ⟨v1, vs1, d1, ds1, p1, q1, rfl, rfl, rfl, h1, r1⟩ := trodAll_cons r0
  obtain ⟨rfl, rfl, rfl⟩ := trodAll_nil r1
  obtain rfl : args = #[v0, v1] := by cases args; simp_all
  obtain ⟨rfl, rfl⟩ := trodVars_none hV
  obtain ⟨a0, rfl, rfl, rfl, w0⟩ := open_int Try.underlying3 (hval 0 3 v0 rfl rfl) h0
  obtain ⟨a1, n1, c1, rfl⟩ := okWide_slice Try.underlying22 (hval 1 22 v1 rfl rfl)
  have k1 := h1
  have lt1 : ∀ x ∈ p1, x.block < W.heap.size := by obtain ⟨m, hm⟩ := k1; exact DataW.trod_lt m _ _ _ hm
  obtain ⟨O1, w1, e1, l1, s1⟩ := open_ops h1
  have b1 : ∀ i, i < n1 → (O1 i).zw.length ≤ 140737488351232 := s1 fun q hq => of_decide_eq_true (List.all_eq_true.1 hsz q (DataW.weights_mem_each (j := 1) rfl rfl q hq))
  clear hA0 hval0
  refine (walk a0 a1 n1 c1 O1 W w0 w1 e1 l1 b1).mono fun e W' ⟨he, bel⟩ => ?_
  subst he
  exact ⟨_, rfl, _, _, _, [], _, [], hW', trodAll_mk1 (shut_bool Try.underlying4 _), (trodAll_cons_mk (shut_int Try.underlying3 w0) (trodAll_cons_mk (Below.trod laidOut (by kernel_rfl) (of_decide_eq_true (by kernel_rfl)) k1 bel lt1) trodAll_mk0)), rfl, bel.frame _, fun h => by cases h⟩

set_option maxRecDepth 100000 in
theorem lifted (os : Os) (started : os.Started) (H : Type) (enc : TypeId × Value → H) :
    ReturnsInHanded {} Try.checked os 3 .any (Rows.pagedDoesSpec.pre6 enc Try.prog Try.f3 Rows.pagedDoesRow.domain false) (Rows.pagedDoesSpec.post enc Try.prog Try.f3 false true false false) := by
  refine returnsInHanded_of_change_sized (C := Try.checked) own started (by kernel_rfl) Try.func3
    (ChangeSpec.witness6 (enc := enc) (C := Try.checked) false ⟨#[], #[.int .i64 0, .slice none 0 0], []⟩ 8 (by kernel_rfl) (by kernel_rfl) (by kernel_rfl) (by kernel_rfl)) ?_
  intro W base args ds gs before hval hW _ hsz _
  exact contract H enc W base args ds gs before hval hW hsz

theorem over : Rows.pagedDoesRow.holds Try.pinned (OpenSpec.ofChange Rows.pagedDoesSpec) :=
  OpenClaim.holds_of_wide 3 Try.f3 rfl rfl rfl rfl rfl rfl rfl ⟨rfl, rfl, rfl, rfl, rfl⟩ rfl rfl rfl rfl rfl (by kernel_rfl) Try.func3 (by kernel_rfl)
    (of_decide_eq_true (by kernel_rfl)) (by unfold Func.isWrapper; first | (rw [if_pos (by decide +kernel)]; kernel_rfl) | (rw [if_neg (by decide +kernel)]; exact ⟨rfl, rfl⟩))
    (fun os started H enc _ => lifted os started H enc)

theorem proved : Rows.PagedDoesSaid :=
  over
#print axioms proved
end Go.Proofs.Ytjbocoheognneaa.pagedDoes
