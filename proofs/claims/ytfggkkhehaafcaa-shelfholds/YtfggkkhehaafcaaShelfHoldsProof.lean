/- ShelfHolds: what is held stays, reads as it was put and is counted as often as it is held; a Pin that fails changes nothing; when all is let go and removed, all pages are free; for every number and every row of acts, without a condition. -/
import Derived.Test.YtfggkkhehaafcaaRows
import Derived.Test.YtfggkkhehaafcaaView
import Derived.Test.YtfggkkhehaafcaaOwn
import Derived.Test.YtfggkkhehaafcaaPages
import Derived.Test.YtfggkkhehaafcaaReadsP
import Derived.Test.YtfggkkhehaafcaaReadsQ
import Derived.Test.YtfggkkhehaafcaaLeast
import Derived.Test.YtfggkkhehaafcaaLays
import Derived.Test.YtfggkkhehaafcaaNews
import Derived.Test.YtfggkkhehaafcaaGoods
import Derived.Test.YtfggkkhehaafcaaCount
import Derived.Test.YtfggkkhehaafcaaPlain
import Derived.Test.YtfggkkhehaafcaaLies
import Derived.Test.YtfggkkhehaafcaaCopies
import Derived.Test.YtfggkkhehaafcaaNeeds
import Derived.Test.YtfggkkhehaafcaaPlace
import Derived.Test.YtfggkkhehaafcaaFetch
import Derived.Test.YtfggkkhehaafcaaFetched
import Derived.Test.YtfggkkhehaafcaaRelease
import Derived.Test.YtfggkkhehaafcaaRefRel
import Derived.Test.YtfggkkhehaafcaaPutReg
import Derived.Test.YtfggkkhehaafcaaInvIn
import Derived.Test.YtfggkkhehaafcaaMapV
import Derived.Test.YtfggkkhehaafcaaShPlain
import Derived.Test.YtfggkkhehaafcaaShActs
import Derived.Test.YtfggkkhehaafcaaShAt
import Derived.Test.YtfggkkhehaafcaaIndex
import Derived.Test.YtfggkkhehaafcaaDelete
import Derived.Test.YtfggkkhehaafcaaShRd
import Derived.Test.YtfggkkhehaafcaaShTurn
import Derived.Test.YtfggkkhehaafcaaShRel
import Derived.Test.YtfggkkhehaafcaaShLoose
import Derived.Test.YtfggkkhehaafcaaShRoom
import Derived.Test.YtfggkkhehaafcaaShRem
import Derived.Test.YtfggkkhehaafcaaShRead
import Derived.Test.YtfggkkhehaafcaaShPut
import Derived.Test.YtfggkkhehaafcaaShBring
import Derived.Test.YtfggkkhehaafcaaShPin
import Derived.Test.YtfggkkhehaafcaaShIn
import Derived.Test.YtfggkkhehaafcaaWorks
import Derived.Test.YtfggkkhehaafcaaWorksK
import Derived.Test.YtfggkkhehaafcaaWorks14
import Derived.Test.YtfggkkhehaafcaaOldK
import Derived.Test.YtfggkkhehaafcaaOldM
import Derived.Test.YtfggkkhehaafcaaHoldZ
import Derived.WalkKit
import Derived.ProofKit
import Derived.OpenShut
import Derived.ChangeOld
import Derived.Below
import Derived.WalkLawsBesides
import Derived.ChangeMaps5
import Derived.Maps.OwnSet
import Derived.OwnWalk
import Derived.Deep.QuietTactic
import Derived.BigQuiet
import Derived.Maps.AppendAt
import Derived.Deep.LoopGhost
import Derived.Deep.Cut
import Derived.Deep.CutRange
import Derived.Deep.CutBlock
import Derived.Deep.RegionHeld3
namespace Go.Proofs.Ytfggkkhehaafcaa.shelfHolds
open Go.ChangeShapes Go.WideShapes Go.ChangeAt Go.RowKit
set_option linter.unusedVariables false
set_option linter.unusedSimpArgs false

theorem own : ownKnob Try.prog.godebug = none := by kernel_rfl
theorem laidOut : laidOutB Try.prog = true := by kernel_rfl


set_option maxHeartbeats 8000000 in
set_option maxRecDepth 20000 in
theorem walk (a0 : Int) (a1 : Option Addr) (n1 c1 : Nat) (O1 : Nat → OpV) (w : World) (w0 : (Lit.int .i64 a0).wf = true) (w1 : OpsAt w a1 n1 O1) (e1 : a1 = none → c1 = 0) (l1 : n1 ≤ c1) :
    Calls Try.prog 4 #[.int .i64 a0, .slice a1 n1 c1] w fun e w' => e = .returned (.bool true) ∧ Below w.heap.size w w' := by
  obtain ⟨M0, hM0, (e0 : (IntKind.u64.wrap a0).tmod 24 = (M0 : Int)), (e0' : IntKind.u64.wrap a0 % 24 = (M0 : Int))⟩ := restN a0 24 (by decide)
  obtain ⟨n, en⟩ : ∃ n : Nat, 1 + M0 = n := ⟨_, rfl⟩
  have en' : (1 : Int) + (M0 : Int) = (n : Int) := by omega
  have n0 : 1 ≤ n := by omega
  have n24 : n ≤ 24 := by omega
  clear en
  have hmx := w1.max
  have HOps := hidden_ w1
  have k22 := works_call w
  have k7 := fun W => new_call n n0 (by omega) W
  have hmm := @run_makeMap Try.prog
  clear w1
  go_enter Try.func4, Try.ntmps4
  go_wp2_with (first
    | (go_at_call 22; refine k22.mono ?_; rintro e W1 ⟨rfl, hb1⟩; have HB1 := hidden_ hb1; clear hb1 k22)
    | (go_at_call 7; refine (k7 W1).mono ?_; rintro e W2 ⟨rfl, hp2, hb2⟩; have k9 := sf_new (hp2 w.heap.size HB1.out.size) n0 (by omega); have HB2 := hidden_ (HB1.out.trans (hb2.mono HB1.out.size)); clear hp2 hb2)
    | (go_at_call 9; refine k9.mono ?_; rintro e W3 ⟨rfl, s3, hb3⟩; have H3 := hidden_ (hi_new s3 (HB2.out.trans (hb3.mono HB2.out.size))); clear s3 hb3 k9))
  obtain ⟨x, ex⟩ : ∃ x : Nat, W2.heap.size + 1 = x := ⟨_, rfl⟩
  obtain ⟨mb, emb⟩ : ∃ mb : Nat, W2.heap.size = mb := ⟨_, rfl⟩
  obtain ⟨b, eb⟩ : ∃ b : Nat, W1.heap.size + 1 = b := ⟨_, rfl⟩
  obtain ⟨g, eg⟩ : ∃ g : Nat, W1.heap.size = g := ⟨_, rfl⟩
  obtain ⟨mi, emi⟩ : ∃ mi : Nat, W3.heap.size = mi := ⟨_, rfl⟩
  obtain ⟨mh, emh⟩ : ∃ mh : Nat, W3.heap.size + 1 = mh := ⟨_, rfl⟩
  obtain ⟨W4, eW4⟩ : ∃ W4, (W3.alloc (.map #[] 0)).alloc (.map #[] 0) = W4 := ⟨_, rfl⟩
  rw [ex, emb, eb, eg, emi, eW4] at H3
  rw [show mi + 1 = mh by omega] at H3
  rw [ex, eb, emh, emi, eW4]
  clear HB1 HB2 eb eg ex emb emi emh eW4 k7 hmm
  go_loopw [10, 11] (fun v i wr => ∃ (k : Nat) (na : Option Addr) (nl nc : Nat), k ≤ n1 ∧ k ≤ 60 ∧ i = .int .i64 k ∧ v = .slice na nl nc ∧ nl ≤ k ∧ Hid (HI w.heap.size w x mb b g mi mh n k k na nl nc wr)) (fun _ i _ => n1 - (intOf i).toNat)
  case atStart => exact ⟨0, none, 0, 0, Nat.zero_le _, Nat.zero_le _, rfl, rfl, Nat.le_refl _, H3⟩
  case round =>
    clear H3
    obtain ⟨k, na, nl, nc, hk, hk', rfl, rfl, hnl, hh⟩ := hrel
    by_cases hlt : k < n1 ∧ k < 60
    · obtain ⟨y1, y2⟩ := hlt
      have y1' : (k : Int) < (n1 : Int) := by omega
      have y2' : (k : Int) < 60 := by omega
      obtain ⟨xo, rfl⟩ := HOps.out.some_ (by omega)
      have hOk := HOps.out.ok k y1
      have cx := (HOps.out.below hh.out.bel).cell xo rfl k y1
      obtain ⟨o, eo⟩ : ∃ o, O1 k = o := ⟨_, rfl⟩
      rw [eo] at hOk cx
      obtain ⟨ok, ot, ⟨wa, wn, wc⟩, zw, on⟩ := o
      simp only [SL.v] at cx
      obtain ⟨PA, ePA⟩ : ∃ PA, xo.add (k * 4) = PA := ⟨_, rfl⟩
      rw [ePA] at cx
      obtain ⟨cx0, cx1, cx2, cx3⟩ := cx
      have cx1' : wr.cell? ⟨PA.block, PA.off + 1, none⟩ = some (.string ot) := cx1
      have cx2' : wr.cell? ⟨PA.block, PA.off + 2, none⟩ = some (.slice wa wn wc) := cx2
      have cx3' : wr.cell? ⟨PA.block, PA.off + 3, none⟩ = some (.int .i64 on) := cx3
      clear cx1 cx2 cx3
      have hwm : wn ≤ 9223372036854775807 := hOk.rw_.max
      have hbA := below_new (Below.refl wr.heap.size wr) (.cells #[.int .i64 ok, .string ot, .slice wa wn wc, .int .i64 on] 39)
      obtain ⟨A, eA⟩ : ∃ A, wr.alloc (.cells #[.int .i64 ok, .string ot, .slice wa wn wc, .int .i64 on] 39) = A := ⟨_, rfl⟩
      have hbx := BoxO.new wr ⟨ok, ot, ⟨wa, wn, wc⟩, zw, on⟩
      unfold boxC at hbx
      simp only at hbx
      rw [eA] at hbA hbx
      obtain ⟨ob, eob⟩ : ∃ ob, wr.heap.size = ob := ⟨_, rfl⟩
      have HA := hidden_ (hh.out.below hbA)
      rw [eob] at hbx
      obtain ⟨d0, d1, d2, d3⟩ := BoxO.cells hbx
      simp only at d0 d1 d2 d3
      have HX := hidden_ hbx
      have HOk := hidden_ hOk
      clear hh hOk hbx eo hbA
      by_cases h2000 : 2000 < wn
      · have h2000' : (2000 : Int) < (wn : Int) := by omega
        go_wp2
        go_ret
        exact ⟨rfl, HA.out.bel⟩
      have h2000' : ¬ (2000 : Int) < (wn : Int) := by omega
      go_upto_block 2 with fail
      go_cut [10, 13, 14] from 38 to 176 (fun v10 _ _ wx => ∃ (na' : Option Addr) (nl' nc' : Nat), v10 = .slice na' nl' nc' ∧ nl' ≤ k + 1 ∧ Hid (HI w.heap.size w x mb b g mi mh n (k + 1) (k + 1) na' nl' nc' wx))
      case first =>
        clear cx0 cx1' cx2' cx3' y1' y2' e0 e0' en' eA eob ePA
        by_cases z0 : ok = 0
        · subst z0
          --ARM0
          obtain ⟨ca, cc, V2, hcp, hrow, hbw⟩ := run_copyB A.drew 37 wa wn wc zw ((HOk.out.rw_.below HA.out.bel).drewN 1) (by omega)
          have hbw' : Below A.heap.size A V2 := ⟨hbw.os, hbw.tape, hbw.output, hbw.size, hbw.block⟩
          have hx2 := HX.out.below hbw'
          obtain ⟨E, kc⟩ := (HA.out.below hbw').put1 (by omega) (by omega) (by omega) hx2 HOk.out (show wn ≤ 2000 by omega) ca cc hrow.reads (fun e => by
            rcases hrow.own.2 with ⟨h1, _⟩ | ⟨g', cap, cur, h1, _⟩
            · simp only [Value.slice.injEq] at h1; exact h1.2.2
            · simp only [Value.slice.injEq] at h1; rw [e] at h1; cases h1.1)
          simp only at kc
          have hxD : BoxO A.drew ob ⟨0, ot, ⟨wa, wn, wc⟩, zw, on⟩ := HX.out
          have hxD1 : BoxO (A.drew.alloc (.cells #[] 59)) ob ⟨0, ot, ⟨wa, wn, wc⟩, zw, on⟩ := hxD.below (below_new (Below.refl _ _) _)
          go_wp2
          refine ho_region x ⟨ob, 0, none⟩ A.heap.size ot wa wn wc ca wn cc E V2 (fun W => BoxO W ob ⟨0, ot, ⟨wa, wn, wc⟩, zw, on⟩) (fun W => _) (fun _ => True) (by kernel_rfl) rfl ⟨_, rfl, rfl, rfl, rfl, by kernel_rfl⟩ ⟨_, rfl, rfl, rfl, rfl, by kernel_rfl⟩ ⟨_, rfl, rfl, rfl, rfl, by kernel_rfl⟩ ⟨_, rfl, rfl, rfl, rfl, by kernel_rfl⟩ ⟨_, rfl, rfl, rfl, rfl, by kernel_rfl⟩ ⟨_, rfl, rfl, rfl, rfl, by kernel_rfl⟩ ⟨_, rfl, rfl, rfl, rfl, by kernel_rfl⟩ ⟨_, rfl, rfl, rfl, rfl, by kernel_rfl⟩ ⟨_, rfl, rfl, rfl, rfl, by kernel_rfl⟩ 37 (fun o h => by cases h; rfl) hxD hxD1 hx2 (fun _ h => h.1) rfl rfl rfl (fun W h => run_load9 h.cells.2.1) (fun W h => run_load37 h.cells.2.2.1) hcp kc (Nat.le_of_ble_eq_true rfl) ?_
          · intro a W3 hs hd hkp hval hx3
            have e68 : a.tmps.getD 68 undef = .bool (E == 0) := hval 8 68 (by decide) rfl
            have ep := frame_puts [60, 61, 62, 63, 64, 65, 66, 67, 68] hs hd (fun s h => hkp s (fun i hi e => h (by
              rcases (show i = 0 ∨ i = 1 ∨ i = 2 ∨ i = 3 ∨ i = 4 ∨ i = 5 ∨ i = 6 ∨ i = 7 ∨ i = 8 by omega) with rfl | rfl | rfl | rfl | rfl | rfl | rfl | rfl | rfl <;> (simp only [hoD, Option.some.injEq] at e; subst e; simp))))
            simp only [List.foldl] at ep
            rw [e68] at ep
            obtain ⟨hx3, hno, hyes⟩ := hx3
            obtain ⟨f0, f1, f2, f3⟩ := hx3.cells
            simp only at f0 f1 f2 f3
            clear hs hd hkp hval hx3 e68 kc hcp hbw hbw' hrow hxD hxD1 hx2
            generalize a.tmps.getD 60 undef = g60 at ep
            generalize a.tmps.getD 61 undef = g61 at ep
            generalize a.tmps.getD 62 undef = g62 at ep
            generalize a.tmps.getD 63 undef = g63 at ep
            generalize a.tmps.getD 64 undef = g64 at ep
            generalize a.tmps.getD 65 undef = g65 at ep
            generalize a.tmps.getD 66 undef = g66 at ep
            generalize a.tmps.getD 67 undef = g67 at ep
            simp only [Act.put, List.setIfInBounds_toArray, List.set_cons_succ, List.set_cons_zero] at ep
            subst ep
            by_cases hE : E = 0
            · subst hE
              obtain ⟨W4, r4, ob4, na', nc', W5, r5, h5⟩ := hyes rfl
              obtain ⟨q0, q1, q2, q3⟩ := ob4.cells
              simp only at q0 q1 q2 q3
              have H5 := hidden_ h5
              clear hno hyes h5 ob4
              go_wp2_with (first
                | (at_builtin; refine wpList_append_run rfl (.tmp 74) (.tmp 77) 46 rfl 46 rfl _ _ rfl rfl _ _ r5 ?_))
              go_meet
              case rel => exact ⟨na', nl + 1, nc', rfl, by omega, H5⟩
            · have hE' : (E == 0) = false := by simp [hE]
              have H5 := hidden_ (hno hE)
              clear hno hyes
              go_wp2
              go_meet
              case rel => exact ⟨na, nl, nc, rfl, by omega, H5⟩
        by_cases z2 : ok = 2
        · subst z2
          --ARM2
          have k17 := HA.out.pin1 (by omega) (by omega) HX.out HOk.out
          simp only at k17
          clear z0
          go_upto_region 23 with (first
            | (go_at_call 17; refine k17.mono ?_; rintro e V1 ⟨ra, rl, rc, rfl, b1, E, k24⟩; obtain ⟨q0, q1, q2, q3⟩ := b1.cells; simp only at q0 q1 q2 q3; clear k17 b1)
            | (go_at_call 24; refine k24.mono ?_; rintro e V2 ⟨rfl, b2, hyes, hno⟩; obtain ⟨f0, f1, f2, f3⟩ := b2.cells; simp only at f0 f1 f2 f3; clear k24 b2))
          by_cases hE : E = 0
          · subst hE
            obtain ⟨v, hv, lk, V3, st, h5⟩ := hyes rfl
            have H5 := hidden_ h5
            obtain ⟨v1, ev1⟩ : ∃ v1 : Nat, v + 1 = v1 := ⟨_, rfl⟩
            rw [ev1] at st
            have hv' : ((v : Int) + 1) = (v1 : Int) := by omega
            clear ev1
            clear hyes hno h5
            go_wp2
            go_meet
            case rel => exact ⟨na, nl, nc, rfl, by omega, H5⟩
          · have hE' : (E == 0) = false := by simp [hE]
            have k17 := hno hE
            clear hno hyes
            go_wp2_with (first
              | (go_at_call 17; refine k17.mono ?_; rintro e V3 ⟨sa, sl, sc, rfl, k16⟩; clear k17)
              | (go_at_call 16; refine k16.mono ?_; rintro e V4 ⟨rfl, h5⟩; have H5 := hidden_ h5; clear k16 h5))
            go_meet
            case rel => exact ⟨na, nl, nc, rfl, by omega, H5⟩
        by_cases z3 : ok = 3
        · subst z3
          --ARM3
          obtain ⟨v, hv, lk, E, hEv, k25⟩ := (HA.out.drewN 1).unp1 (by omega) (by omega) (show BoxO (A.drewN 1) ob _ from HX.out) HOk.out
          simp only at lk k25
          clear z0 z2
          obtain ⟨V, eV⟩ : ∃ V : Int, (v : Int) = V := ⟨_, rfl⟩
          obtain ⟨U, eU⟩ : ∃ U : Int, ((v - 1 : Nat) : Int) = U := ⟨_, rfl⟩
          rw [eV] at lk
          simp only [eV, eU] at k25
          rcases (show v = 0 ∨ v = 1 ∨ 2 ≤ v by omega) with hv0 | hv1 | hv2
          · obtain rfl : V = 0 := by omega
            obtain rfl : U = 0 := by omega
            have hE : ¬ E = 0 := fun e => by have := hEv.1 e; omega
            have hE' : (E == 0) = false := by simp [hE]
            clear hEv eV eU hv hv0
            go_wp2
            go_region_held3 (fun W => (Instr.lookup 53 (.map (some mh)) (.string ot) false).run Try.prog W = .ok (.int .i64 0) W ∧ W.cell? ⟨ob, 1, none⟩ = some (.string ot)) (first | assumption | (exact ⟨lk, d1⟩) | exact d35) (first
              | (go_at_call 25; refine k25.mono ?_; rintro e V1 ⟨rfl, b1, lk1, V2, st, h5⟩; obtain ⟨q0, q1, q2, q3⟩ := b1.cells; simp only at q0 q1 q2 q3; have d35 := And.intro lk1 q1; have H5 := hidden_ h5; clear k25 b1 h5))
            all_goals
              clear lk
              go_wp2
              go_meet
              case rel => exact ⟨na, nl, nc, rfl, by omega, H5⟩
          · obtain rfl : V = 1 := by omega
            obtain rfl : U = 0 := by omega
            obtain rfl : E = 0 := hEv.2 (by omega)
            clear hEv eV eU hv hv1
            go_wp2
            go_region_held3 (fun W => (Instr.lookup 53 (.map (some mh)) (.string ot) false).run Try.prog W = .ok (.int .i64 1) W ∧ W.cell? ⟨ob, 1, none⟩ = some (.string ot)) (first | assumption | (exact ⟨lk, d1⟩) | exact d35) (first
              | (go_at_call 25; refine k25.mono ?_; rintro e V1 ⟨rfl, b1, lk1, V2, st, h5⟩; obtain ⟨q0, q1, q2, q3⟩ := b1.cells; simp only at q0 q1 q2 q3; have d35 := And.intro lk1 q1; have H5 := hidden_ h5; clear k25 b1 h5))
            all_goals
              clear lk
              go_wp2
              go_meet
              case rel => exact ⟨na, nl, nc, rfl, by omega, H5⟩
          · obtain rfl : E = 0 := hEv.2 (by omega)
            have c0 : (0 : Int) < V := by omega
            have c1 : (0 : Int) < U := by omega
            have c2 : ¬ U < 0 := by omega
            have c3 : ¬ (0 : Int) = U := by omega
            have c4 : V - 1 = U := by omega
            have c5 : V ≤ 1000 := by omega
            clear hEv eV eU hv hv2
            go_wp2
            go_region_held3 (fun W => (Instr.lookup 53 (.map (some mh)) (.string ot) false).run Try.prog W = .ok (.int .i64 V) W ∧ W.cell? ⟨ob, 1, none⟩ = some (.string ot)) (first | assumption | (exact ⟨lk, d1⟩) | exact d35) (first
              | (go_at_call 25; refine k25.mono ?_; rintro e V1 ⟨rfl, b1, lk1, V2, st, h5⟩; obtain ⟨q0, q1, q2, q3⟩ := b1.cells; simp only at q0 q1 q2 q3; have d35 := And.intro lk1 q1; have H5 := hidden_ h5; clear k25 b1 h5))
            all_goals
              clear lk
              go_wp2
              go_meet
              case rel => exact ⟨na, nl, nc, rfl, by omega, H5⟩
        · --ELSE
          have H5 := hidden_ (HA.out.mono (Nat.le_succ k) (Nat.le_succ k))
          go_wp2
          go_meet
          case rel => exact ⟨na, nl, nc, rfl, by omega, H5⟩
      case rest =>
        --REST
        obtain ⟨na2, nl2, nc2, rfl, hnl2, hh⟩ := hcut
        have hrow := hh.out.row
        clear HA HX HOk d0 d1 d2 d3 cx0 cx1' cx2' cx3' eA e0 e0' en' eob ePA h2000 h2000'
        go_wp2
        go_loopw [15] (fun j wr' => ∃ m : Nat, m ≤ nl2 ∧ j = .int .i64 m ∧ Hid (HI w.heap.size w x mb b g mi mh n (k + 1) (k + 1) na2 nl2 nc2 wr')) (fun j _ => nl2 - (intOf j).toNat)
        case atStart => exact ⟨0, Nat.zero_le _, rfl, hh⟩
        case round =>
          clear hh
          obtain ⟨m, hm, rfl, hi⟩ := hrel
          by_cases hml : m < nl2
          · obtain ⟨r1, r2, _, r4⟩ := hrow
            obtain ⟨gb, rfl⟩ := r4 (by omega)
            obtain ⟨t, c0, k11⟩ := hi.out.round (by omega) (Nat.le_refl _) rfl hml
            have hml' : (m : Int) < (nl2 : Int) := by omega
            clear hi r4
            go_upto_region 35 with (first
              | (go_at_call 11; refine k11.mono ?_; rintro e V ⟨ra, rl, rc, E, rfl, c1, hV, v, hv, lk, k14, hcase⟩; have HV := hidden_ hV; clear k11 hV c0))
            obtain ⟨P, eP⟩ : ∃ P : Int, (v : Int) = P := ⟨_, rfl⟩
            rw [eP] at lk k14
            rcases hcase with ⟨rfl, hv0⟩ | ⟨rfl, ia, il, ic, lk2, k13⟩
            · obtain rfl : P = 0 := by omega
              clear eP hv hv0
              go_wp2
              go_quiet (first | (go_at_call 13; exact Calls.quiet_of (k13 _)) | (go_at_call 14; exact Calls.quiet_of_same (k14 _)))
              go_wp2
              go_roundw
              case rel => exact ⟨m + 1, by omega, by go_num, hidden_ (HV.out.drewN _)⟩
              case measure => simp [intOf]; omega
            · by_cases hv0 : v = 0
              · obtain rfl : P = 0 := by omega
                clear eP hv hv0
                go_wp2
                go_quiet (first | (go_at_call 13; exact Calls.quiet_of (k13 _)) | (go_at_call 14; exact Calls.quiet_of_same (k14 _)))
                go_wp2
                go_roundw
                case rel => exact ⟨m + 1, by omega, by go_num, hidden_ (HV.out.drewN _)⟩
                case measure => simp [intOf]; omega
              · have p0 : (0 : Int) < P := by omega
                clear eP hv hv0
                go_wp2
                go_quiet (first | (go_at_call 13; exact Calls.quiet_of (k13 _)) | (go_at_call 14; exact Calls.quiet_of_same (k14 _)))
                go_wp2
                go_roundw
                case rel => exact ⟨m + 1, by omega, by go_num, hidden_ (HV.out.drewN _)⟩
                case measure => simp [intOf]; omega
          · obtain rfl : m = nl2 := by omega
            go_wp2
            go_roundw
            case rel => exact ⟨k + 1, na2, m, nc2, by omega, by omega, by go_num, rfl, by omega, hi⟩
            case measure => simp [intOf]; omega
    · --END
      clear e0 e0' en'
      by_cases c : k < n1
      · have c1 : (k : Int) < (n1 : Int) := by omega
        have c2 : ¬ (k : Int) < 60 := by omega
        have hrow := hh.out.row
        have HJ0 := hidden_ (hh.out.toJ (by omega))
        clear hh HOps hlt
        go_wp2
        go_loopw [18] (fun j wr' => ∃ m : Nat, m ≤ nl ∧ j = .int .i64 m ∧ Hid (HJ w.heap.size w x mb b g mi mh n k (k + 1000 * m) na nl nc m wr')) (fun j _ => nl - (intOf j).toNat)
        case atStart => exact ⟨0, Nat.zero_le _, rfl, HJ0⟩
        case round =>
          clear HJ0
          obtain ⟨m, hm, rfl, hj⟩ := hrel
          by_cases hml : m < nl
          · obtain ⟨r1, r2, _, r4⟩ := hrow
            obtain ⟨gb, rfl⟩ := r4 (by omega)
            obtain ⟨t, p, hp, hK⟩ := hj.out.at_ hml
            have HK0 := hidden_ hK
            have hml' : (m : Int) < (nl : Int) := by omega
            clear hj hK r4
            go_wp2
            go_loopg [] p (fun gk wr' => gk ≤ p ∧ Hid (HK w.heap.size w x mb b g mi mh n k (k + 1000 * m + (p - gk)) (some ⟨gb, 0, none⟩) nl nc m t gk wr'))
            case atStart => exact ⟨Nat.le_refl _, by rw [Nat.sub_self]; exact HK0⟩
            case round =>
              clear HK0
              obtain ⟨hgk, hK⟩ := hrel
              obtain ⟨c0, lk⟩ := hK.out.tells rfl
              by_cases hz : gk = 0
              · subst hz
                rw [show ((0 : Nat) : Int) = 0 from rfl] at lk
                have k26 := hK.out.done (by omega)
                clear hK
                go_wp2_with (first
                  | (go_at_call 26; refine k26.mono ?_; rintro e V1 ⟨rfl, h1⟩; have H1 := hidden_ h1; clear k26 h1))
                go_roundw
                case rel => exact ⟨m + 1, by omega, by go_num, hidden_ (H1.out.mono (by omega))⟩
                case measure => simp [intOf]; omega
              · obtain ⟨J, rfl⟩ : ∃ J, gk = J + 1 := ⟨gk - 1, by omega⟩
                obtain ⟨V1, st, c1, k25⟩ := hK.out.step rfl (by omega) (by omega)
                obtain ⟨P, eP⟩ : ∃ P : Int, ((J + 1 : Nat) : Int) = P := ⟨_, rfl⟩
                rw [eP] at lk
                have p0 : (0 : Int) < P := by omega
                have p1 : P - 1 = (J : Int) := by omega
                have p2 : P ≤ 1000 := by omega
                clear hK eP hz
                go_wp2_with (first
                  | (go_at_call 25; refine k25.mono ?_; rintro e V2 ⟨⟨E, rfl⟩, h2⟩; have H2 := hidden_ h2; clear k25 h2))
                go_roundg J
                case measure => omega
                case rel => exact ⟨by omega, hidden_ (by rw [show k + 1000 * m + (p - J) = k + 1000 * m + (p - (J + 1)) + 1 by omega]; exact H2.out)⟩
          · obtain rfl : m = nl := by omega
            obtain ⟨N, AA, k27⟩ := hj.out.stop (by omega)
            clear hj
            go_wp2_with (first
              | (go_at_call 27; refine k27.mono ?_; rintro e V1 ⟨rfl, hb1, k17⟩; clear k27 hb1)
              | (go_at_call 17; refine k17.mono ?_; rintro e V2 ⟨⟨a2, c2, rfl⟩, hb2⟩; have HB2 := hidden_ hb2; clear k17 hb2))
            go_ret
            exact ⟨rfl, HB2.out⟩
      · have c1 : ¬ (k : Int) < (n1 : Int) := by omega
        have hrow := hh.out.row
        have HJ0 := hidden_ (hh.out.toJ (by omega))
        clear hh HOps hlt
        go_wp2
        go_loopw [18] (fun j wr' => ∃ m : Nat, m ≤ nl ∧ j = .int .i64 m ∧ Hid (HJ w.heap.size w x mb b g mi mh n k (k + 1000 * m) na nl nc m wr')) (fun j _ => nl - (intOf j).toNat)
        case atStart => exact ⟨0, Nat.zero_le _, rfl, HJ0⟩
        case round =>
          clear HJ0
          obtain ⟨m, hm, rfl, hj⟩ := hrel
          by_cases hml : m < nl
          · obtain ⟨r1, r2, _, r4⟩ := hrow
            obtain ⟨gb, rfl⟩ := r4 (by omega)
            obtain ⟨t, p, hp, hK⟩ := hj.out.at_ hml
            have HK0 := hidden_ hK
            have hml' : (m : Int) < (nl : Int) := by omega
            clear hj hK r4
            go_wp2
            go_loopg [] p (fun gk wr' => gk ≤ p ∧ Hid (HK w.heap.size w x mb b g mi mh n k (k + 1000 * m + (p - gk)) (some ⟨gb, 0, none⟩) nl nc m t gk wr'))
            case atStart => exact ⟨Nat.le_refl _, by rw [Nat.sub_self]; exact HK0⟩
            case round =>
              clear HK0
              obtain ⟨hgk, hK⟩ := hrel
              obtain ⟨c0, lk⟩ := hK.out.tells rfl
              by_cases hz : gk = 0
              · subst hz
                rw [show ((0 : Nat) : Int) = 0 from rfl] at lk
                have k26 := hK.out.done (by omega)
                clear hK
                go_wp2_with (first
                  | (go_at_call 26; refine k26.mono ?_; rintro e V1 ⟨rfl, h1⟩; have H1 := hidden_ h1; clear k26 h1))
                go_roundw
                case rel => exact ⟨m + 1, by omega, by go_num, hidden_ (H1.out.mono (by omega))⟩
                case measure => simp [intOf]; omega
              · obtain ⟨J, rfl⟩ : ∃ J, gk = J + 1 := ⟨gk - 1, by omega⟩
                obtain ⟨V1, st, c1, k25⟩ := hK.out.step rfl (by omega) (by omega)
                obtain ⟨P, eP⟩ : ∃ P : Int, ((J + 1 : Nat) : Int) = P := ⟨_, rfl⟩
                rw [eP] at lk
                have p0 : (0 : Int) < P := by omega
                have p1 : P - 1 = (J : Int) := by omega
                have p2 : P ≤ 1000 := by omega
                clear hK eP hz
                go_wp2_with (first
                  | (go_at_call 25; refine k25.mono ?_; rintro e V2 ⟨⟨E, rfl⟩, h2⟩; have H2 := hidden_ h2; clear k25 h2))
                go_roundg J
                case measure => omega
                case rel => exact ⟨by omega, hidden_ (by rw [show k + 1000 * m + (p - J) = k + 1000 * m + (p - (J + 1)) + 1 by omega]; exact H2.out)⟩
          · obtain rfl : m = nl := by omega
            obtain ⟨N, AA, k27⟩ := hj.out.stop (by omega)
            clear hj
            go_wp2_with (first
              | (go_at_call 27; refine k27.mono ?_; rintro e V1 ⟨rfl, hb1, k17⟩; clear k27 hb1)
              | (go_at_call 17; refine k17.mono ?_; rintro e V2 ⟨⟨a2, c2, rfl⟩, hb2⟩; have HB2 := hidden_ hb2; clear k17 hb2))
            go_ret
            exact ⟨rfl, HB2.out⟩

set_option maxRecDepth 100000 in
theorem contract (H : Type) (enc : TypeId × Value → H) (W : World) (base : Nat) (args : Array Value) (ds gs : List (DataW H)) (before : List MemPlace)
    (hval0 : ∀ (j : Nat) t v, Try.f4.params[j]? = some t → args[j]? = some v → Value.okWide Try.prog W .any base t v)
    (hW : DataW.Whole enc Try.prog Try.f4.params.toList Rows.shelfHoldsSpec.vars false W args.toList ds gs before) :
    Calls Try.prog 4 args W fun e W' => ∃ v, e = .returned v ∧ Rows.shelfHoldsSpec.post enc Try.prog Try.f4 false true false false W args v W' := by
  have hval : ∀ (j : Nat) t v, Try.f4.params[j]? = some t → args[j]? = some v → Value.okWide Try.prog W .any base t v := hval0
  have hW' := hW
  obtain ⟨p, q, hA0, hV, rfl, hfz, hnd⟩ := hW
  have hA : DataW.TrodAll enc Try.prog W 0 (fun _ => true) true Try.f4.params.toList args.toList ds p := hA0
  rw [Try.params4] at hA hval
  obtain ⟨v0, vs0, d0, ds0, p0, q0, hargs, rfl, rfl, h0, r0⟩ := trodAll_cons hA
  obtain ⟨v1, vs1, d1, ds1, p1, q1, rfl, rfl, rfl, h1, r1⟩ := trodAll_cons r0
  obtain ⟨rfl, rfl, rfl⟩ := trodAll_nil r1
  obtain rfl : args = #[v0, v1] := by cases args; simp_all
  obtain ⟨rfl, rfl⟩ := trodVars_none hV
  obtain ⟨a0, rfl, rfl, rfl, w0⟩ := open_int Try.underlying3 (hval 0 3 v0 rfl rfl) h0
  obtain ⟨a1, n1, c1, rfl⟩ := okWide_slice Try.underlying22 (hval 1 22 v1 rfl rfl)
  have k1 := h1
  have lt1 : ∀ x ∈ p1, x.block < W.heap.size := by obtain ⟨m, hm⟩ := k1; exact DataW.trod_lt m _ _ _ hm
  obtain ⟨O1, w1, e1, l1⟩ := open_ops h1
  clear hA0 hval0
  refine (walk a0 a1 n1 c1 O1 W w0 w1 e1 l1).mono fun e W' ⟨he, bel⟩ => ?_
  subst he
  exact ⟨_, rfl, _, _, _, [], _, [], hW', trodAll_mk1 (shut_bool Try.underlying4 _), (trodAll_cons_mk (shut_int Try.underlying3 w0) (trodAll_cons_mk (Below.trod laidOut (by kernel_rfl) (of_decide_eq_true (by kernel_rfl)) k1 bel lt1) trodAll_mk0)), rfl, bel.frame _, fun h => by cases h⟩

set_option maxRecDepth 100000 in
theorem lifted (os : Os) (started : os.Started) (H : Type) (enc : TypeId × Value → H) :
    ReturnsInHanded {} Try.checked os 4 .any (Rows.shelfHoldsSpec.pre6 enc Try.prog Try.f4 Rows.shelfHoldsRow.domain false) (Rows.shelfHoldsSpec.post enc Try.prog Try.f4 false true false false) := by
  refine returnsInHanded_of_change (C := Try.checked) own started (by kernel_rfl) Try.func4
    (ChangeSpec.witness6 (enc := enc) (C := Try.checked) false ⟨#[], #[.int .i64 0, .slice none 0 0], []⟩ 8 (by kernel_rfl) (by kernel_rfl) (by kernel_rfl) (by kernel_rfl)) ?_
  intro W base args ds gs before hval hW _ _
  exact contract H enc W base args ds gs before hval hW

theorem over : Rows.shelfHoldsRow.holds Try.pinned (OpenSpec.ofChange Rows.shelfHoldsSpec) :=
  OpenClaim.holds_of_wide 4 Try.f4 rfl rfl rfl rfl rfl rfl rfl ⟨rfl, rfl, rfl, rfl, rfl⟩ rfl rfl rfl rfl rfl (by kernel_rfl) Try.func4 (by kernel_rfl)
    (of_decide_eq_true (by kernel_rfl)) (by unfold Func.isWrapper; first | (rw [if_pos (by decide +kernel)]; kernel_rfl) | (rw [if_neg (by decide +kernel)]; exact ⟨rfl, rfl⟩))
    (fun os started H enc _ => lifted os started H enc)

theorem proved : Rows.ShelfHoldsSaid :=
  over
#print axioms proved
end Go.Proofs.Ytfggkkhehaafcaa.shelfHolds
