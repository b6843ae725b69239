/- KvDoes: whatever is appended, forked, kept and released, each answer, each row and each page are as the chapter says. -/
import Derived.Test.YtgjjeggopeppfaaRows
import Derived.Test.YtgjjeggopeppfaaPages
import Derived.Test.YtgjjeggopeppfaaBasis
import Derived.Test.YtgjjeggopeppfaaLeast
import Derived.Test.YtgjjeggopeppfaaLays
import Derived.Test.YtgjjeggopeppfaaTurns
import Derived.Test.YtgjjeggopeppfaaGoods
import Derived.Test.YtgjjeggopeppfaaNews
import Derived.Test.YtgjjeggopeppfaaCount
import Derived.Test.YtgjjeggopeppfaaLies
import Derived.Test.YtgjjeggopeppfaaSeqP
import Derived.Test.YtgjjeggopeppfaaSeqRN
import Derived.Test.YtgjjeggopeppfaaReadsB
import Derived.Test.YtgjjeggopeppfaaRooms
import Derived.Test.YtgjjeggopeppfaaPagesOf
import Derived.Test.YtgjjeggopeppfaaForks
import Derived.Test.YtgjjeggopeppfaaKeep
import Derived.Test.YtgjjeggopeppfaaRows13
import Derived.Test.YtgjjeggopeppfaaManys
import Derived.Test.YtgjjeggopeppfaaSeqsIn
import Derived.Test.YtgjjeggopeppfaaSmalls
import Derived.Test.YtgjjeggopeppfaaOpenOps
import Derived.Test.YtgjjeggopeppfaaFkSE
import Derived.Test.YtgjjeggopeppfaaRefA
import Derived.Test.YtgjjeggopeppfaaDocAt
import Derived.Test.YtgjjeggopeppfaaDocRd
import Derived.Test.YtgjjeggopeppfaaDocAp0
import Derived.Test.YtgjjeggopeppfaaBothIn
import Derived.Test.YtgjjeggopeppfaaDoS
import Derived.Test.YtgjjeggopeppfaaRegPg
import Derived.Test.YtgjjeggopeppfaaRegD
import Derived.Test.YtgjjeggopeppfaaRegFo
import Derived.WalkKit
import Derived.ProofKit
import Derived.OpenShut
import Derived.ChangeOld
import Derived.Below
import Derived.WalkLawsBesides
import Derived.ChangeMaps5
import Derived.Deep.QuietTactic
import Derived.BigQuiet
import Derived.OwnWalk
import Derived.Deep.RegionHeld3
import Derived.Laws.OwnMore
import Derived.Deep.CutRange
import Derived.Deep.CutBlock
import Derived.SizedLaws
namespace Go.Proofs.Ytgjjeggopeppfaa.kvDoes
open Go.ChangeShapes Go.WideShapes Go.ChangeAt Go.RowKit
set_option linter.unusedVariables false
set_option linter.unusedSimpArgs false

theorem own : ownKnob Try.prog.godebug = none := by kernel_rfl
theorem laidOut : laidOutB Try.prog = true := by kernel_rfl


set_option maxHeartbeats 8000000 in
set_option maxRecDepth 20000 in
theorem walk (a0 : Int) (a1 : Int) (a2 : ByteArray) (a3 : Option Addr) (n3 c3 : Nat) (O3 : Nat → OpV) (w : World) (w0 : (Lit.int .i64 a0).wf = true) (w1 : (Lit.int .i64 a1).wf = true) (w2 : a2.size ≤ maxLen) (w3 : OpsAt w a3 n3 O3) (e3 : a3 = none → c3 = 0) (l3 : n3 ≤ c3) (b3 : ∀ i, i < n3 → (O3 i).zw.length * 8 ≤ 140737488351232) :
    Calls Try.prog 3 #[.int .i64 a0, .int .i64 a1, .string a2, .slice a3 n3 c3] w fun e w' => e = .returned (.bool true) ∧ Below w.heap.size w w' := by
  have hmx := w3.max
  obtain ⟨M0, hM0, (e0 : (IntKind.u64.wrap a0).tmod 20 = (M0 : Int)), (e0' : IntKind.u64.wrap a0 % 20 = (M0 : Int))⟩ := restN a0 20 (by decide)
  obtain ⟨N, eN⟩ : ∃ N : Nat, 1 + M0 = N := ⟨_, rfl⟩
  have eN' : (1 : Int) + (M0 : Int) = (N : Int) := by omega
  have hN : 1 ≤ N ∧ N ≤ 20 := by omega
  clear eN
  have k7 := new_call N (by omega) (by omega)
  have k8 := refNew_call N (by omega) (by omega)
  have HOps := hidden_ w3
  have hbz := hidden_ b3
  clear w3 b3
  by_cases hyes : ¬ a2.toList = [] ∧ 1 ≤ a1 ∧ a1 ≤ 32
  · obtain ⟨ht, hw0, hw1⟩ := hyes
    obtain ⟨wd, rfl⟩ : ∃ wd : Nat, a1 = (wd : Int) := ⟨a1.toNat, by omega⟩
    have wd0 : 1 ≤ wd := by omega
    have wd1 : wd ≤ 32 := by omega
    have k9 : Hid (∀ b W, Calls Try.prog 9 #[.pointer (some ⟨b, 0, none⟩), .string a2, .int .i64 wd] W fun e w' => ∃ x, e = .returned (.tuple #[.pointer (some ⟨x, 0, none⟩), .int .i64 0]) ∧ W.heap.size ≤ x ∧ (∀ B, B ≤ W.heap.size → SeqAt B w' x b a2 wd ⟨[], 0, 0⟩ none 0) ∧ Below W.heap.size W w') := fun b W => new_call13 b a2 wd ht wd0 wd1 W
    have k10 : Hid (∀ b W, Calls Try.prog 10 #[.pointer (some ⟨b, 0, none⟩), .string a2, .int .i64 wd] W fun e w' => ∃ x, e = .returned (.tuple #[.pointer (some ⟨x, 0, none⟩), .int .i64 0]) ∧ W.heap.size ≤ x ∧ (∀ B, B ≤ W.heap.size → DocAt B w' x b a2 wd ⟨[], 0, 0⟩ none 0) ∧ Below W.heap.size W w') := fun b W => rnew_call b a2 wd ht wd0 wd1 W
    have k11 : Hid (∀ (z : Int), 0 ≤ z → z ≤ 1000 → ∀ W, Calls Try.prog 11 #[.int .i64 wd, .int .i64 z] W fun e w' => ∃ ra rc, e = .returned (.slice ra wd rc) ∧ RowJ W.heap.size w' ra wd rc (lawRow wd z) ∧ Below W.heap.size W w') := fun z h0 h1 W => lawRow_call wd z h0 h1 wd1 W
    have HT := hidden_ ht
    clear ht hw0 hw1
    go_enter Try.func3, Try.ntmps3
    go_wp2_with (first
      | (go_at_call 7; refine (k7 _).mono ?_; rintro e W1 ⟨rfl, hp1, hb1⟩; have H1 := hidden_ (And.intro (hp1 w.heap.size (Nat.le_refl _)) hb1); clear k7 hp1 hb1)
      | (go_at_call 8; refine (k8 _).mono ?_; rintro e W2 ⟨rfl, hp2, hb2⟩; have H2 := hidden_ (And.intro (H1.out.1.below hb2) (And.intro (hp2 w.heap.size H1.out.2.size) (below_then H1.out.2 hb2))); have q9 := k9.out (w.heap.size + 1) W2; clear k8 hp2 hb2)
      | (go_at_call 9; refine q9.mono ?_; rintro e W3 ⟨x, rfl, hx, hs3, hb3⟩; have H3 := hidden_ (And.intro (hs3 w.heap.size H2.out.2.2.size) (And.intro (H2.out.1.below hb3) (And.intro (H2.out.2.1.below hb3) (below_then H2.out.2.2 hb3)))); have q10 := k10.out (W1.heap.size + 1) W3; clear hs3 hb3 q9 hx)
      | (go_at_call 10; refine q10.mono ?_; rintro e W4 ⟨x2, rfl, hx2, hs4, hb4⟩; have H4 := hidden_ (dos_new (both_new (H3.out.2.1.below hb4) (H3.out.1.below hb4) (H3.out.2.2.1.below hb4) (hs4 w.heap.size H3.out.2.2.2.size)) (below_then H3.out.2.2.2 hb4) ⟨hN.1, Nat.le_trans hN.2 (by decide)⟩ HT.out wd0 wd1); clear hs4 hb4 q10 hx2))
    obtain ⟨g, gd, H5⟩ : ∃ g gd, Hid (DoS w.heap.size w ((W4.alloc (.cells #[.pointer (some ⟨x, 0, none⟩)] 31)).alloc (.cells #[.pointer (some ⟨x2, 0, none⟩)] 34)) (w.heap.size + 1) g (W1.heap.size + 1) gd a2 wd N 1 (newPl N) (fun _ => ⟨[], 0, 0⟩) (fun _ => x) (fun _ => x2) (fun _ => 0) (.slice (some ⟨W4.heap.size, 0, none⟩) 1 1) (.slice (some ⟨W4.heap.size + 1, 0, none⟩) 1 1) 0) := ⟨_, _, H4⟩
    obtain ⟨b, eb⟩ : ∃ b, w.heap.size + 1 = b := ⟨_, rfl⟩
    obtain ⟨bd, ebd⟩ : ∃ bd, W1.heap.size + 1 = bd := ⟨_, rfl⟩
    rw [eb, ebd] at H5
    rw [eb, ebd]
    clear H1 H2 H3 H4 eb ebd e0 e0' eN' k9 k10
    go_loopw [16, 17, 18] (fun v16 v17 i wr => ∃ k : Nat, k ≤ n3 ∧ k ≤ 60 ∧ i = .int .i64 k ∧ ∃ K s Q X X2 r, DoS w.heap.size w wr b g bd gd a2 wd N K s Q X X2 r v16 v17 k) (fun _ _ i _ => n3 - (intOf i).toNat)
    case atStart => exact ⟨0, Nat.zero_le _, Nat.zero_le _, rfl, 1, _, _, _, _, _, H5.out⟩
    case round =>
      clear H5
      obtain ⟨k, hk, hk', rfl, K, s, Q, X, X2, r, hF⟩ := hrel
      obtain ⟨a9, c9, rfl⟩ := own_form hF.own16
      obtain ⟨a10, c10, rfl⟩ := own_form hF.own17
      have hK6 := hF.kmem
      have hK1 := hF.pos
      by_cases hlt : k < n3 ∧ k < 60
      · obtain ⟨y1, y2⟩ := hlt
        have y1' : (k : Int) < (n3 : Int) := by omega
        have y2' : (k : Int) < 60 := by omega
        obtain ⟨x, rfl⟩ := HOps.out.some_ (by omega)
        have hOk := HOps.out.ok k y1
        have cx := (HOps.out.below hF.below).cell x rfl k y1
        have hzw := hbz.out k y1
        obtain ⟨o, eo⟩ : ∃ o, O3 k = o := ⟨_, rfl⟩
        rw [eo] at hOk cx hzw
        obtain ⟨ok, oq, ⟨wa, wn, wk⟩, zw, on⟩ := o
        simp only [SL.v] at cx hzw
        obtain ⟨PA, ePA⟩ : ∃ PA, x.add (k * 4) = PA := ⟨_, rfl⟩
        rw [ePA] at cx
        obtain ⟨cx0, cx1, cx2, cx3⟩ := cx
        have cx1' : wr.cell? ⟨PA.block, PA.off + 1, none⟩ = some (.int .i64 oq) := cx1
        have cx2' : wr.cell? ⟨PA.block, PA.off + 2, none⟩ = some (.slice wa wn wk) := cx2
        have cx3' : wr.cell? ⟨PA.block, PA.off + 3, none⟩ = some (.int .i64 on) := cx3
        clear cx1 cx2 cx3
        have hwn : on ≤ 9223372036854775807 := by
          have := hOk.wn
          simp [Lit.wf, IntKind.min, IntKind.max, IntKind.signed, IntKind.bits] at this
          omega
        have hRd := hidden_ hOk.rw_
        simp only at hRd
        have hwl : wn * 8 ≤ 140737488355328 := by have := hRd.out.len; omega
        obtain ⟨M, hM, (eM : (IntKind.u64.wrap oq).tmod (K : Int) = (M : Int)), (eM' : IntKind.u64.wrap oq % (K : Int) = (M : Int))⟩ := restN oq K (by omega)
        have hKu := wrapU (K := K) (by omega)
        have hKz : ¬ ((K : Int) = 0) := by omega
        have hbA := below_new (Below.refl wr.heap.size wr) (.cells #[.int .i64 ok, .int .i64 oq, .slice wa wn wk, .int .i64 on] 41)
        obtain ⟨A, eA⟩ : ∃ A, wr.alloc (.cells #[.int .i64 ok, .int .i64 oq, .slice wa wn wk, .int .i64 on] 41) = A := ⟨_, rfl⟩
        have hbx := BoxO.new wr ⟨ok, oq, ⟨wa, wn, wk⟩, zw, on⟩
        unfold boxC at hbx
        simp only at hbx
        rw [eA] at hbA hbx
        have hFA := hF.next hbA
        obtain ⟨d0, d1, d2, d3⟩ := BoxO.cells hbx
        simp only at d0 d1 d2 d3
        obtain ⟨x9, rfl, d9⟩ := own_cell hFA.own16 (ptrs_at X K M hM)
        obtain ⟨x8, rfl, d8⟩ := own_cell hFA.own17 (ptrs_at X2 K M hM)
        have HF := hidden_ hFA
        have HX := hidden_ hbx
        have kr := k11.out k (by omega) (by omega)
        clear hF hFA hOk hbx eo hzw
        go_upto_block 2 with fail
        go_cut [16, 17] from 82 to 200 (fun v16 v17 wx => ∃ K2 s2 Q2 XX XY r2, DoS w.heap.size w wx b g bd gd a2 wd N K2 s2 Q2 XX XY r2 v16 v17 (k + 1) ∧ M < K2 ∧ BoxO wx wr.heap.size ⟨ok, oq, ⟨wa, wn, wk⟩, zw, on⟩)
        case first =>
          by_cases z0 : ok = 0
          · subst z0
            by_cases hw0 : wn = 0
            · subst hw0
              obtain ⟨xm, exm⟩ : ∃ xm, X M = xm := ⟨_, rfl⟩
              obtain ⟨ym, eym⟩ : ∃ ym, X2 M = ym := ⟨_, rfl⟩
              rw [exm] at d9
              rw [eym] at d8
              have kr' := kr A
              clear kr
              go_wp2_with (first | (go_at_call 11; refine kr'.mono ?_; rintro e W4 ⟨ra, rc, rfl, hr4, hb4⟩; have H4 := hidden_ (And.intro hr4 hb4); clear kr' hr4 hb4))
              have HF4 := hidden_ (HF.out.next H4.out.2)
              have HB4 := hidden_ H4.out.2
              have hap := hidden_ (HF.out.made H4.out.2 H4.out.1)
              have hwf4 := hidden_ H4.out.1.wf
              have own16c : Hid (∀ W, Below W4.heap.size W4 W → W.cell? (x9.add M) = some (.pointer (some ⟨xm, 0, none⟩))) := fun W hb => by rw [← exm]; exact own_cellE (HF4.out.next hb).own16 hM
              have own17c : Hid (∀ W, (Below W4.heap.size W4 W ∨ Off w.heap.size TS W4 W) → W.cell? (x8.add M) = some (.pointer (some ⟨ym, 0, none⟩))) := fun W hb => by
                rw [← eym]
                rcases hb with hb | ho
                · exact own_cellE (HF4.out.next hb).own17 hM
                · exact own_cellE (own_off HF4.out.own17 ho rfl) hM
              have h12 := hidden_ (HF4.out.h12 hM (by omega) hap.out)
              have h13 := hidden_ (HF4.out.h13 (a := ra) (n := wd) (c := rc) (zs := (lawRow wd k)) hM (by omega))
              have hrd := hidden_ (hap.out)
              simp only [exm] at h12
              simp only [eym] at h13
              clear exm eym
              refine ap_region xm ym wd rc M K c9 K c10 W4.heap.size x9 x8 (appE wd a2 s (Q M) (lawRow wd k)) ra (lawRow wd k) (DoMid w.heap.size W4 b g bd gd a2 wd K M s Q X X2 r ra wd (lawRow wd k)) (DoFin w.heap.size W4 b g bd gd a2 wd K M s Q X X2 (lawRow wd k)) (by kernel_rfl) rfl ⟨_, rfl, rfl, rfl, rfl, by kernel_rfl⟩ ⟨_, rfl, rfl, rfl, rfl, by kernel_rfl⟩ ⟨_, rfl, rfl, rfl, rfl, by kernel_rfl⟩ ⟨_, rfl, rfl, rfl, rfl, by kernel_rfl⟩ ⟨_, rfl, rfl, rfl, rfl, by kernel_rfl⟩ ⟨_, rfl, rfl, rfl, rfl, by kernel_rfl⟩ ⟨_, rfl, rfl, rfl, rfl, by kernel_rfl⟩ ⟨_, rfl, rfl, rfl, rfl, by kernel_rfl⟩ ⟨_, rfl, rfl, rfl, rfl, by kernel_rfl⟩ ⟨_, rfl, rfl, rfl, rfl, by kernel_rfl⟩ ⟨_, rfl, rfl, rfl, rfl, by kernel_rfl⟩ ⟨_, rfl, rfl, rfl, rfl, by kernel_rfl⟩ ⟨_, rfl, rfl, rfl, rfl, by kernel_rfl⟩ ⟨_, rfl, rfl, rfl, rfl, by kernel_rfl⟩ ⟨_, rfl, rfl, rfl, rfl, by kernel_rfl⟩ ⟨fun _ => ⟨rfl, rfl, rfl, Nat.le_refl _, fun _ _ => rfl⟩, (fun h => by cases h), (fun h => by cases h)⟩ (fun w => run_ix37 x9 K c9 M hM w) (fun l w hw hl => run_load31 (own16c.out w (hw.1 hl))) (fun w => run_ix38 x8 K c10 M hM w) (fun l w hw hl => run_load34 (own17c.out w (by cases e7 : l 7 with | false => exact .inl (hw.1 e7) | true => exact .inr (hw.2.1 e7 hl).2.1))) (run_neq25_same _) rfl rfl rfl rfl rfl (by omega) (type_atT rfl rfl) (fun w hb => (hrd.out.below hb).reads) h12.out h13.out (Nat.le_of_ble_eq_true rfl) ?_
              intro l9 a9 W6 hall hs hd hkp hS9 hval
              have e130 : a9.tmps.getD 130 undef = .bool false := hval 14 130 (by decide) rfl
              have H6 := hidden_ (hS9.2.2 (hall 13 (by decide)))
              have ep := frame_puts [116, 117, 118, 119, 120, 121, 122, 123, 124, 125, 126, 127, 128, 129, 130] hs hd (fun s h => hkp s (fun i hi e => h (by
                rcases (show i = 0 ∨ i = 1 ∨ i = 2 ∨ i = 3 ∨ i = 4 ∨ i = 5 ∨ i = 6 ∨ i = 7 ∨ i = 8 ∨ i = 9 ∨ i = 10 ∨ i = 11 ∨ i = 12 ∨ i = 13 ∨ i = 14 by omega) with rfl | rfl | rfl | rfl | rfl | rfl | rfl | rfl | rfl | rfl | rfl | rfl | rfl | rfl | rfl <;> first | (simp only [apD, Option.some.injEq] at e; subst e; simp; done) | (simp [apD] at e; done))))
              simp only [List.foldl] at ep
              rw [e130] at ep
              clear hs hd hkp hval hS9 hall e130
              generalize a9.tmps.getD 116 undef = g116 at ep
              generalize a9.tmps.getD 117 undef = g117 at ep
              generalize a9.tmps.getD 118 undef = g118 at ep
              generalize a9.tmps.getD 119 undef = g119 at ep
              generalize a9.tmps.getD 120 undef = g120 at ep
              generalize a9.tmps.getD 121 undef = g121 at ep
              generalize a9.tmps.getD 122 undef = g122 at ep
              generalize a9.tmps.getD 123 undef = g123 at ep
              generalize a9.tmps.getD 124 undef = g124 at ep
              generalize a9.tmps.getD 125 undef = g125 at ep
              generalize a9.tmps.getD 126 undef = g126 at ep
              generalize a9.tmps.getD 127 undef = g127 at ep
              generalize a9.tmps.getD 128 undef = g128 at ep
              generalize a9.tmps.getD 129 undef = g129 at ep
              simp only [Act.put, List.setIfInBounds_toArray, List.set_cons_succ, List.set_cons_zero] at ep
              subst ep
              go_wp2
              go_meet
              case rel =>
                obtain ⟨s', Q', r', hD⟩ := HF4.out.appended hM (by omega) hwf4.out H6.out
                exact ⟨K, s', Q', X, X2, r', hD, hM, (HX.out.below HB4.out).off (H6.out.elim fun _ h => h.2) rfl⟩
            · skip
              have hz0 : (wn == 0) = false := by simp [hw0]
              have hz1 : ((wn : Int) == 0) = false := by simp; omega
              have hz2 : ¬ ((wn : Int) = 0) := by omega
              have hwx := hRd.out.max
              obtain ⟨xm, exm⟩ : ∃ xm, X M = xm := ⟨_, rfl⟩
              obtain ⟨ym, eym⟩ : ∃ ym, X2 M = ym := ⟨_, rfl⟩
              rw [exm] at d9
              rw [eym] at d8
              have own16c : Hid (∀ W, Below A.heap.size A W → W.cell? (x9.add M) = some (.pointer (some ⟨xm, 0, none⟩))) := fun W hb => by rw [← exm]; exact own_cellE (HF.out.next hb).own16 hM
              have own17c : Hid (∀ W, (Below A.heap.size A W ∨ Off w.heap.size TS A W) → W.cell? (x8.add M) = some (.pointer (some ⟨ym, 0, none⟩))) := fun W hb => by
                rw [← eym]
                rcases hb with hb | ho
                · exact own_cellE (HF.out.next hb).own17 hM
                · exact own_cellE (own_off HF.out.own17 ho rfl) hM
              have hap := hidden_ (HF.out.given (w1 := w) (Nat.le_refl _) HF.out.below hRd.out (by omega))
              go_wp2
              have h12 := hidden_ (HF.out.h12 hM (by omega) hap.out)
              have h13 := hidden_ (HF.out.h13 (a := wa) (n := wn) (c := wk) (zs := zw) hM (by omega))
              have hrd := hidden_ (hap.out)
              simp only [exm] at h12
              simp only [eym] at h13
              clear exm eym
              refine ap_region xm ym wn wk M K c9 K c10 A.heap.size x9 x8 (appE wd a2 s (Q M) zw) wa zw (DoMid w.heap.size A b g bd gd a2 wd K M s Q X X2 r wa wn zw) (DoFin w.heap.size A b g bd gd a2 wd K M s Q X X2 zw) (by kernel_rfl) rfl ⟨_, rfl, rfl, rfl, rfl, by kernel_rfl⟩ ⟨_, rfl, rfl, rfl, rfl, by kernel_rfl⟩ ⟨_, rfl, rfl, rfl, rfl, by kernel_rfl⟩ ⟨_, rfl, rfl, rfl, rfl, by kernel_rfl⟩ ⟨_, rfl, rfl, rfl, rfl, by kernel_rfl⟩ ⟨_, rfl, rfl, rfl, rfl, by kernel_rfl⟩ ⟨_, rfl, rfl, rfl, rfl, by kernel_rfl⟩ ⟨_, rfl, rfl, rfl, rfl, by kernel_rfl⟩ ⟨_, rfl, rfl, rfl, rfl, by kernel_rfl⟩ ⟨_, rfl, rfl, rfl, rfl, by kernel_rfl⟩ ⟨_, rfl, rfl, rfl, rfl, by kernel_rfl⟩ ⟨_, rfl, rfl, rfl, rfl, by kernel_rfl⟩ ⟨_, rfl, rfl, rfl, rfl, by kernel_rfl⟩ ⟨_, rfl, rfl, rfl, rfl, by kernel_rfl⟩ ⟨_, rfl, rfl, rfl, rfl, by kernel_rfl⟩ ⟨fun _ => ⟨rfl, rfl, rfl, Nat.le_refl _, fun _ _ => rfl⟩, (fun h => by cases h), (fun h => by cases h)⟩ (fun w => run_ix37 x9 K c9 M hM w) (fun l w hw hl => run_load31 (own16c.out w (hw.1 hl))) (fun w => run_ix38 x8 K c10 M hM w) (fun l w hw hl => run_load34 (own17c.out w (by cases e7 : l 7 with | false => exact .inl (hw.1 e7) | true => exact .inr (hw.2.1 e7 hl).2.1))) (run_neq25_same _) rfl rfl rfl rfl rfl hwl (type_atT rfl rfl) (fun w hb => (hrd.out.below hb).reads) h12.out h13.out (Nat.le_of_ble_eq_true rfl) ?_
              intro l9 a9 W6 hall hs hd hkp hS9 hval
              have e130 : a9.tmps.getD 130 undef = .bool false := hval 14 130 (by decide) rfl
              have H6 := hidden_ (hS9.2.2 (hall 13 (by decide)))
              have ep := frame_puts [116, 117, 118, 119, 120, 121, 122, 123, 124, 125, 126, 127, 128, 129, 130] hs hd (fun s h => hkp s (fun i hi e => h (by
                rcases (show i = 0 ∨ i = 1 ∨ i = 2 ∨ i = 3 ∨ i = 4 ∨ i = 5 ∨ i = 6 ∨ i = 7 ∨ i = 8 ∨ i = 9 ∨ i = 10 ∨ i = 11 ∨ i = 12 ∨ i = 13 ∨ i = 14 by omega) with rfl | rfl | rfl | rfl | rfl | rfl | rfl | rfl | rfl | rfl | rfl | rfl | rfl | rfl | rfl <;> first | (simp only [apD, Option.some.injEq] at e; subst e; simp; done) | (simp [apD] at e; done))))
              simp only [List.foldl] at ep
              rw [e130] at ep
              clear hs hd hkp hval hS9 hall e130
              generalize a9.tmps.getD 116 undef = g116 at ep
              generalize a9.tmps.getD 117 undef = g117 at ep
              generalize a9.tmps.getD 118 undef = g118 at ep
              generalize a9.tmps.getD 119 undef = g119 at ep
              generalize a9.tmps.getD 120 undef = g120 at ep
              generalize a9.tmps.getD 121 undef = g121 at ep
              generalize a9.tmps.getD 122 undef = g122 at ep
              generalize a9.tmps.getD 123 undef = g123 at ep
              generalize a9.tmps.getD 124 undef = g124 at ep
              generalize a9.tmps.getD 125 undef = g125 at ep
              generalize a9.tmps.getD 126 undef = g126 at ep
              generalize a9.tmps.getD 127 undef = g127 at ep
              generalize a9.tmps.getD 128 undef = g128 at ep
              generalize a9.tmps.getD 129 undef = g129 at ep
              simp only [Act.put, List.setIfInBounds_toArray, List.set_cons_succ, List.set_cons_zero] at ep
              subst ep
              go_wp2
              go_meet
              case rel =>
                obtain ⟨s', Q', r', hD⟩ := HF.out.appended hM (by omega) hRd.out.wf_mem H6.out
                exact ⟨K, s', Q', X, X2, r', hD, hM, (HX.out).off (H6.out.elim fun _ h => h.2) rfl⟩
          by_cases z1 : ok = 1
          · subst z1
            by_cases hKl : K < 6
            · skip
              have hK5 : (K : Int) < 6 := by omega
              have k14 := HF.out.k14 hM
              have k15 := hidden_ (fun x5 => HF.out.k15 (x5 := x5) hM)
              obtain ⟨xm, exm⟩ : ∃ xm, X M = xm := ⟨_, rfl⟩
              obtain ⟨ym, eym⟩ : ∃ ym, X2 M = ym := ⟨_, rfl⟩
              rw [exm] at d9
              rw [eym] at d8
              rw [exm] at k14
              simp only [eym] at k15
              have HY := hidden_ eym
              clear exm eym
              go_wp2_with (first
                | (go_at_call 14; refine k14.mono ?_; rintro e W5 ⟨x5, rfl, hp5, ho5⟩; have H5 := hidden_ (And.intro hp5 ho5); clear k14 hp5 ho5))
              have s5 : Hid (foS x5 ym K M c9 K c10 x9 x8 c9 c10 w.heap.size X X2 w (fun W => DoPre w.heap.size b g bd gd a2 wd K M x5 s Q X X2 r W ∧ BoxO W wr.heap.size ⟨1, oq, ⟨wa, wn, wk⟩, zw, on⟩) (fun y W => DoPost w.heap.size b g bd gd a2 wd K M x5 s Q X X2 r y W ∧ BoxO W wr.heap.size ⟨1, oq, ⟨wa, wn, wk⟩, zw, on⟩) W5 (fun _ => false) W5.drew) := by
                obtain ⟨hp5, ho5⟩ := H5.out
                have hb5 : Below w.heap.size w W5 := HF.out.below.trans (ho5.below HF.out.both.lt)
                exact ⟨fun _ => own_off (own_off HF.out.own16 ho5 rfl) (T := fun _ => false) ((Off.refl w.heap.size _ W5).drewN 1) rfl, fun _ => own_off (own_off HF.out.own17 ho5 rfl) (T := fun _ => false) ((Off.refl w.heap.size _ W5).drewN 1) rfl, fun _ => ⟨BothIn.drewN hp5 1, BoxO.drewN (BoxO.off (T := TS) HX.out ho5 rfl) 1⟩, ⟨hb5.os, hb5.tape, hb5.output, hb5.size, hb5.block⟩, hb5.size⟩
              refine fo_region x5 ym K M c9 K c10 x9 x8 c9 c10 w.heap.size X X2 w (fun W => DoPre w.heap.size b g bd gd a2 wd K M x5 s Q X X2 r W ∧ BoxO W wr.heap.size ⟨1, oq, ⟨wa, wn, wk⟩, zw, on⟩) (fun y W => DoPost w.heap.size b g bd gd a2 wd K M x5 s Q X X2 r y W ∧ BoxO W wr.heap.size ⟨1, oq, ⟨wa, wn, wk⟩, zw, on⟩) (by kernel_rfl) rfl ⟨_, rfl, rfl, rfl, rfl, by kernel_rfl⟩ ⟨_, rfl, rfl, rfl, rfl, by kernel_rfl⟩ ⟨_, rfl, rfl, rfl, rfl, by kernel_rfl⟩ ⟨_, rfl, rfl, rfl, rfl, by kernel_rfl⟩ ⟨_, rfl, rfl, rfl, rfl, by kernel_rfl⟩ ⟨_, rfl, rfl, rfl, rfl, by kernel_rfl⟩ ⟨_, rfl, rfl, rfl, rfl, by kernel_rfl⟩ ⟨_, rfl, rfl, rfl, rfl, by kernel_rfl⟩ ⟨_, rfl, rfl, rfl, rfl, by kernel_rfl⟩ ⟨_, rfl, rfl, rfl, rfl, by kernel_rfl⟩ ⟨_, rfl, rfl, rfl, rfl, by kernel_rfl⟩ ⟨_, rfl, rfl, rfl, rfl, by kernel_rfl⟩ ⟨_, rfl, rfl, rfl, rfl, by kernel_rfl⟩ ⟨_, rfl, rfl, rfl, rfl, by kernel_rfl⟩ s5.out (fun w => run_ix38 x8 K c10 M hM w) (fun l w hw hl => by have := own_cellE (hw.2.1 hl) hM; rw [HY.out] at this; exact run_load34 this) rfl rfl rfl rfl (by omega) (type_atT rfl rfl) (type_atT rfl rfl) (fun o hT h => ⟨BothIn.off h.1 o (fun t ht => hT t (.inl ht)), h.2.off o (hT 41 (.inr rfl))⟩) (fun y _ _ _ o hT h => ⟨BothIn.off h.1 o (fun t ht => hT t (.inl ht)), h.2.off o (hT 41 (.inr rfl))⟩) (fun wq hq => (k15.out x5 wq hq.1).mono (fun e Wq ⟨y, h1, h2, h3⟩ => ⟨y, h1, ⟨h2, hq.2.off h3 rfl⟩, h3⟩)) (Nat.le_of_ble_eq_true rfl) ?_
              intro l9 a9 W6 hall hs hd hkp hS9 hval
              obtain ⟨u3, v3, e16, ho16⟩ := hval 12 16 (by decide) rfl
              obtain ⟨y5, u4, v4, e17, ho17, hp17⟩ := hval 13 17 (by decide) rfl
              have HS := hidden_ (And.intro hS9.2.2.2.1 (And.intro ho16 (And.intro ho17 hp17)))
              have HBX := hidden_ (show True from trivial)
              clear ho16 ho17 hp17
              have ep := frame_puts [143, 144, 145, 146, 147, 148, 149, 150, 151, 152, 153, 154, 16, 17] hs hd (fun s h => hkp s (fun i hi e => h (by
                rcases (show i = 0 ∨ i = 1 ∨ i = 2 ∨ i = 3 ∨ i = 4 ∨ i = 5 ∨ i = 6 ∨ i = 7 ∨ i = 8 ∨ i = 9 ∨ i = 10 ∨ i = 11 ∨ i = 12 ∨ i = 13 by omega) with rfl | rfl | rfl | rfl | rfl | rfl | rfl | rfl | rfl | rfl | rfl | rfl | rfl | rfl <;> first | (simp only [foD, Option.some.injEq] at e; subst e; simp; done) | (simp [foD] at e; done))))
              simp only [List.foldl] at ep
              rw [e16] at ep
              rw [e17] at ep
              clear hs hd hkp hval hS9 hall e16 e17
              generalize a9.tmps.getD 143 undef = g143 at ep
              generalize a9.tmps.getD 144 undef = g144 at ep
              generalize a9.tmps.getD 145 undef = g145 at ep
              generalize a9.tmps.getD 146 undef = g146 at ep
              generalize a9.tmps.getD 147 undef = g147 at ep
              generalize a9.tmps.getD 148 undef = g148 at ep
              generalize a9.tmps.getD 149 undef = g149 at ep
              generalize a9.tmps.getD 150 undef = g150 at ep
              generalize a9.tmps.getD 151 undef = g151 at ep
              generalize a9.tmps.getD 152 undef = g152 at ep
              generalize a9.tmps.getD 153 undef = g153 at ep
              generalize a9.tmps.getD 154 undef = g154 at ep
              simp only [Act.put, List.setIfInBounds_toArray, List.set_cons_succ, List.set_cons_zero] at ep
              subst ep
              go_wp2
              go_meet
              case rel =>
                obtain ⟨hb6, ho16, ho17, hp17⟩ := HS.out
                obtain ⟨s', Q', XX, XY, r', hD⟩ := HF.out.forked hM hKl hp17.1 ho16 ho17 hb6
                exact ⟨K + 1, s', Q', XX, XY, r', hD, by omega, hp17.2⟩
            · skip
              have hK5 : ¬ (K : Int) < 6 := by omega
              go_wp2
              go_meet
              case rel => exact ⟨K, s, Q, X, X2, r, HF.out.still, hM, HX.out⟩
          by_cases z2 : ok = 2
          · subst z2
            have k16 := hidden_ (HF.out.k16 hM on hwn)
            have k17 := hidden_ (HF.out.k17 hM on hwn)
            obtain ⟨xm, exm⟩ : ∃ xm, X M = xm := ⟨_, rfl⟩
            obtain ⟨ym, eym⟩ : ∃ ym, X2 M = ym := ⟨_, rfl⟩
            rw [exm] at d9
            rw [eym] at d8
            simp only [exm] at k16
            simp only [eym] at k17
            have HY := hidden_ eym
            clear exm eym
            go_wp2
            refine ka_region xm wr.heap.size M K c9 x9 on (DoHalf w.heap.size A b g bd gd a2 wd K M s (keepS wd s (Q M) on) Q (keepQ wd (Q M) on) X X2 r) (by kernel_rfl) rfl ⟨_, rfl, rfl, rfl, rfl, by kernel_rfl⟩ ⟨_, rfl, rfl, rfl, rfl, by kernel_rfl⟩ ⟨_, rfl, rfl, rfl, rfl, by kernel_rfl⟩ ⟨_, rfl, rfl, rfl, rfl, by kernel_rfl⟩ ⟨_, rfl, rfl, rfl, rfl, by kernel_rfl⟩ ⟨_, rfl, rfl, rfl, rfl, by kernel_rfl⟩ ⟨_, rfl, rfl, rfl, rfl, by kernel_rfl⟩ ⟨fun _ => rfl, fun h => by cases h⟩ (fun w => run_ix37 x9 K c9 M hM w) (fun l w hw hl => by rw [hw.1 hl]; exact run_load31 (w := A.drew) d9) (fun w => run_fa41 wr.heap.size 3 (by decide) w) (fun l w hw hl => by rw [hw.1 hl]; exact run_load3 (w := A.drew) d3) rfl rfl rfl (fun w' hw' => by subst hw'; exact k16.out _ ⟨rfl, rfl, rfl, Nat.le_refl _, fun _ _ => rfl⟩) (Nat.le_of_ble_eq_true rfl) ?_
            intro l9 a9 W5 hall hs hd hkp hS9 hval
            have H5 := hidden_ (hS9.2 (hall 6 (by decide)))
            have ep := frame_puts [157, 158, 159, 160, 161, 162, 163] hs hd (fun s h => hkp s (fun i hi e => h (by
              rcases (show i = 0 ∨ i = 1 ∨ i = 2 ∨ i = 3 ∨ i = 4 ∨ i = 5 ∨ i = 6 by omega) with rfl | rfl | rfl | rfl | rfl | rfl | rfl <;> first | (simp only [kaD, Option.some.injEq] at e; subst e; simp; done) | (simp [kaD] at e; done))))
            simp only [List.foldl] at ep
            clear hs hd hkp hval hS9 hall 
            generalize a9.tmps.getD 157 undef = g157 at ep
            generalize a9.tmps.getD 158 undef = g158 at ep
            generalize a9.tmps.getD 159 undef = g159 at ep
            generalize a9.tmps.getD 160 undef = g160 at ep
            generalize a9.tmps.getD 161 undef = g161 at ep
            generalize a9.tmps.getD 162 undef = g162 at ep
            generalize a9.tmps.getD 163 undef = g163 at ep
            simp only [Act.put, List.setIfInBounds_toArray, List.set_cons_succ, List.set_cons_zero] at ep
            subst ep
            have d85 : W5.cell? (x8.add M) = some (.pointer (some ⟨ym, 0, none⟩)) := by rw [← HY.out]; exact own_cellE (HF.out.half17 H5.out) hM
            have d35 : W5.cell? ⟨wr.heap.size, 3, none⟩ = some (.int .i64 on) := (BoxO.cells (HX.out.off H5.out.2 rfl)).2.2.2
            go_wp2
            refine kb_region ym wr.heap.size M K c10 x8 on (DoWhole w.heap.size A b g bd gd a2 wd K M (keepS wd s (Q M) on) Q (keepQ wd (Q M) on) X X2) (by kernel_rfl) rfl ⟨_, rfl, rfl, rfl, rfl, by kernel_rfl⟩ ⟨_, rfl, rfl, rfl, rfl, by kernel_rfl⟩ ⟨_, rfl, rfl, rfl, rfl, by kernel_rfl⟩ ⟨_, rfl, rfl, rfl, rfl, by kernel_rfl⟩ ⟨_, rfl, rfl, rfl, rfl, by kernel_rfl⟩ ⟨_, rfl, rfl, rfl, rfl, by kernel_rfl⟩ ⟨_, rfl, rfl, rfl, rfl, by kernel_rfl⟩ ⟨fun _ => rfl, fun h => by cases h⟩ (fun w => run_ix38 x8 K c10 M hM w) (fun l w hw hl => by rw [hw.1 hl]; exact run_load34 (w := W5.drew) d85) (fun w => run_fa41 wr.heap.size 3 (by decide) w) (fun l w hw hl => by rw [hw.1 hl]; exact run_load3 (w := W5.drew) d35) rfl rfl rfl (fun w' hw' => by subst hw'; exact k17.out W5 _ H5.out ⟨rfl, rfl, rfl, Nat.le_refl _, fun _ _ => rfl⟩) (Nat.le_of_ble_eq_true rfl) ?_
            intro l9 a9 W6 hall hs hd hkp hS9 hval
            have H6 := hidden_ (hS9.2 (hall 6 (by decide)))
            have ep := frame_puts [164, 165, 166, 167, 168, 169, 170] hs hd (fun s h => hkp s (fun i hi e => h (by
              rcases (show i = 0 ∨ i = 1 ∨ i = 2 ∨ i = 3 ∨ i = 4 ∨ i = 5 ∨ i = 6 by omega) with rfl | rfl | rfl | rfl | rfl | rfl | rfl <;> first | (simp only [kbD, Option.some.injEq] at e; subst e; simp; done) | (simp [kbD] at e; done))))
            simp only [List.foldl] at ep
            clear hs hd hkp hval hS9 hall 
            generalize a9.tmps.getD 164 undef = g164 at ep
            generalize a9.tmps.getD 165 undef = g165 at ep
            generalize a9.tmps.getD 166 undef = g166 at ep
            generalize a9.tmps.getD 167 undef = g167 at ep
            generalize a9.tmps.getD 168 undef = g168 at ep
            generalize a9.tmps.getD 169 undef = g169 at ep
            generalize a9.tmps.getD 170 undef = g170 at ep
            simp only [Act.put, List.setIfInBounds_toArray, List.set_cons_succ, List.set_cons_zero] at ep
            subst ep
            go_wp2
            go_meet
            case rel =>
              obtain ⟨s', Q', r', hD⟩ := HF.out.kept_ hM on H6.out
              exact ⟨K, s', Q', X, X2, r', hD, hM, HX.out.off (H6.out.elim fun _ h => h.2) rfl⟩
          by_cases z3 : ok = 3
          · subst z3
            have k18 := HF.out.k18 hM
            have k19 := hidden_ (HF.out.k19 hM)
            obtain ⟨xm, exm⟩ : ∃ xm, X M = xm := ⟨_, rfl⟩
            obtain ⟨ym, eym⟩ : ∃ ym, X2 M = ym := ⟨_, rfl⟩
            rw [exm] at d9
            rw [eym] at d8
            rw [exm] at k18
            simp only [eym] at k19
            have HY := hidden_ eym
            clear exm eym
            go_wp2_with (first
              | (go_at_call 18; refine k18.mono ?_; rintro e W5 ⟨rfl, h5⟩; have q19 := k19.out W5 h5; have d85 : W5.cell? (x8.add M) = some (.pointer (some ⟨ym, 0, none⟩)) := (by rw [← HY.out]; exact own_cellE (HF.out.half17 h5) hM); clear k18 k19 h5)
              | (go_at_call 19; refine q19.mono ?_; rintro e W6 ⟨rfl, h6⟩; have H6 := hidden_ h6; clear q19 h6))
            go_meet
            case rel =>
              obtain ⟨s', Q', r', hD⟩ := HF.out.ended hM H6.out
              exact ⟨K, s', Q', X, X2, r', hD, hM, HX.out.off (H6.out.elim fun _ h => h.2) rfl⟩
          have b0 : (ok == 0) = false := by simp; omega
          have b1 : (ok == 1) = false := by simp; omega
          have b2 : (ok == 2) = false := by simp; omega
          have b3 : (ok == 3) = false := by simp; omega
          go_wp2
          go_meet
          case rel => exact ⟨K, s, Q, X, X2, r, HF.out.still, hM, HX.out⟩
        case rest =>
          clear HF HX kr d9 d8 d0 d1 d2 d3 hM eM eM'
          obtain ⟨K2, s2, Q2, XX, XY, r2, hG2, hM2, hX2⟩ := hcut
          obtain ⟨a9', c9', rfl⟩ := own_form hG2.own16
          obtain ⟨a10', c10', rfl⟩ := own_form hG2.own17
          obtain ⟨z9, rfl, -⟩ := own_cell hG2.own16 (ptrs_at XX K2 M hM2)
          obtain ⟨z8, rfl, -⟩ := own_cell hG2.own17 (ptrs_at XY K2 M hM2)
          have HG := hidden_ (And.intro hG2 hX2)
          clear hG2 hX2
          go_wp2
          refine sa_region (XX M) (XY M) wr.heap.size b bd M K2 c9' K2 c10' z9 z8 on (fun W => DoS w.heap.size w W b g bd gd a2 wd N K2 s2 Q2 XX XY r2 (.slice (some z9) K2 c9') (.slice (some z8) K2 c10') (k + 1) ∧ BoxO W wr.heap.size ⟨ok, oq, ⟨wa, wn, wk⟩, zw, on⟩) (by kernel_rfl) rfl ⟨_, rfl, rfl, rfl, rfl, by kernel_rfl⟩ ⟨_, rfl, rfl, rfl, rfl, by kernel_rfl⟩ ⟨_, rfl, rfl, rfl, rfl, by kernel_rfl⟩ ⟨_, rfl, rfl, rfl, rfl, by kernel_rfl⟩ ⟨_, rfl, rfl, rfl, rfl, by kernel_rfl⟩ ⟨_, rfl, rfl, rfl, rfl, by kernel_rfl⟩ ⟨_, rfl, rfl, rfl, rfl, by kernel_rfl⟩ ⟨_, rfl, rfl, rfl, rfl, by kernel_rfl⟩ ⟨_, rfl, rfl, rfl, rfl, by kernel_rfl⟩ ⟨_, rfl, rfl, rfl, rfl, by kernel_rfl⟩ ⟨_, rfl, rfl, rfl, rfl, by kernel_rfl⟩ ⟨_, rfl, rfl, rfl, rfl, by kernel_rfl⟩ ⟨_, rfl, rfl, rfl, rfl, by kernel_rfl⟩ ⟨_, rfl, rfl, rfl, rfl, by kernel_rfl⟩ ⟨_, rfl, rfl, rfl, rfl, by kernel_rfl⟩ ⟨_, rfl, rfl, rfl, rfl, by kernel_rfl⟩ ⟨_, rfl, rfl, rfl, rfl, by kernel_rfl⟩ ⟨_, rfl, rfl, rfl, rfl, by kernel_rfl⟩ ⟨HG.out.1.drewN 1, HG.out.2⟩ (fun w => run_ix37 z9 K2 c9' M hM2 w) (fun W h => run_load31 (own_cellE h.1.own16 hM2)) (fun w => run_ix38 z8 K2 c10' M hM2 w) (fun W h => run_load34 (own_cellE h.1.own17 hM2)) (fun w => run_fa41 wr.heap.size 3 (by decide) w) (fun W h => run_load3 (BoxO.cells h.2).2.2.2) (fun W h => (h.1.both.same h.1.many hM2 on).mono (fun e w' h' => ⟨h'.1, h'.2, h.1.next h'.2, h.2.below h'.2⟩)) (fun W h => (h.1.both.pools h.1.many).mono (fun e w' h' => ⟨h'.1, by obtain ⟨-, m', rfl⟩ := h'; exact ⟨⟨rfl, rfl, rfl, Nat.le_refl _, fun _ _ => rfl⟩, h.1.drewN m', h.2⟩⟩)) rfl rfl rfl rfl rfl rfl (Nat.le_of_ble_eq_true rfl) ?_
          intro a W9 hs hd hkp hS9 hval
          have e200 : a.tmps.getD 200 undef = .bool false := hval 17 200 (by decide) rfl
          have ep := frame_puts [183, 184, 185, 186, 187, 188, 189, 190, 191, 192, 193, 194, 195, 196, 197, 198, 199, 200] hs hd (fun s h => hkp s (fun i hi e => h (by
            rcases (show i = 0 ∨ i = 1 ∨ i = 2 ∨ i = 3 ∨ i = 4 ∨ i = 5 ∨ i = 6 ∨ i = 7 ∨ i = 8 ∨ i = 9 ∨ i = 10 ∨ i = 11 ∨ i = 12 ∨ i = 13 ∨ i = 14 ∨ i = 15 ∨ i = 16 ∨ i = 17 by omega) with rfl | rfl | rfl | rfl | rfl | rfl | rfl | rfl | rfl | rfl | rfl | rfl | rfl | rfl | rfl | rfl | rfl | rfl <;> (simp only [saD, Option.some.injEq] at e; subst e; simp))))
          simp only [List.foldl] at ep
          rw [e200] at ep
          have H9 := hidden_ hS9
          clear hs hd hkp hval hS9 e200
          generalize a.tmps.getD 183 undef = g183 at ep
          generalize a.tmps.getD 184 undef = g184 at ep
          generalize a.tmps.getD 185 undef = g185 at ep
          generalize a.tmps.getD 186 undef = g186 at ep
          generalize a.tmps.getD 187 undef = g187 at ep
          generalize a.tmps.getD 188 undef = g188 at ep
          generalize a.tmps.getD 189 undef = g189 at ep
          generalize a.tmps.getD 190 undef = g190 at ep
          generalize a.tmps.getD 191 undef = g191 at ep
          generalize a.tmps.getD 192 undef = g192 at ep
          generalize a.tmps.getD 193 undef = g193 at ep
          generalize a.tmps.getD 194 undef = g194 at ep
          generalize a.tmps.getD 195 undef = g195 at ep
          generalize a.tmps.getD 196 undef = g196 at ep
          generalize a.tmps.getD 197 undef = g197 at ep
          generalize a.tmps.getD 198 undef = g198 at ep
          generalize a.tmps.getD 199 undef = g199 at ep
          simp only [Act.put, List.setIfInBounds_toArray, List.set_cons_succ, List.set_cons_zero] at ep
          subst ep
          go_wp2
          go_roundw
          case rel => exact ⟨k + 1, by omega, by omega, by go_num, K2, s2, Q2, XX, XY, r2, H9.out.1⟩
          case measure => simp [intOf]; omega
      · have Hf := hidden_ hF
        have hz : ¬ ((k : Int) < (n3 : Int) ∧ (k : Int) < 60) := by omega
        obtain ⟨z9, rfl, -⟩ := own_cell hF.own16 (ptrs_at X K 0 (by omega))
        obtain ⟨z8, rfl, -⟩ := own_cell hF.own17 (ptrs_at X2 K 0 (by omega))
        clear hF
        by_cases hkn : k < n3
        · have y1' : (k : Int) < (n3 : Int) := by omega
          have y2' : ¬ (k : Int) < 60 := by omega
          go_wp2
          go_loopw [23] (fun i W => ∃ m : Nat, m ≤ K ∧ i = .int .i64 m ∧ DoS w.heap.size w W b g bd gd a2 wd N K s Q X X2 r (.slice (some z9) K c9) (.slice (some z8) K c10) k) (fun i _ => K - (intOf i).toNat)
          case atStart => exact ⟨0, Nat.zero_le _, rfl, Hf.out⟩
          case round =>
            clear Hf
            obtain ⟨m, hm, rfl, hf⟩ := hrel
            by_cases hmK : m < K
            · have Hg := hidden_ hf
              clear hf
              go_wp2
              go_loopw [24] (fun i W => ∃ j : Nat, j ≤ (Q m).n ∧ i = .int .i64 j ∧ DoS w.heap.size w W b g bd gd a2 wd N K s Q X X2 r (.slice (some z9) K c9) (.slice (some z8) K c10) k) (fun i _ => (Q m).n - (intOf i).toNat)
              case atStart => exact ⟨0, Nat.zero_le _, rfl, Hg.out⟩
              case round =>
                clear Hg
                obtain ⟨j, hj, rfl, hf⟩ := hrel
                have g8 := own_cellE hf.own17 hmK
                have g5 := hf.both.nAt hmK
                have hfew := (hf.many.ok m hmK).few
                obtain ⟨n0, en⟩ : ∃ n0, (Q m).n = n0 := ⟨_, rfl⟩
                obtain ⟨ym, eym⟩ : ∃ ym, X2 m = ym := ⟨_, rfl⟩
                rw [en] at g5 hj hfew
                rw [eym] at g8 g5
                have HE := hidden_ (And.intro en eym)
                have Hf := hidden_ hf
                clear hf en eym
                by_cases hjn : j < n0
                · go_wp2
                  refine sb_region (X m) ym m K c9 K c10 z9 z8 (j : Int) (fun W => DoS w.heap.size w W b g bd gd a2 wd N K s Q X X2 r (.slice (some z9) K c9) (.slice (some z8) K c10) k) (by kernel_rfl) rfl ⟨_, rfl, rfl, rfl, rfl, by kernel_rfl⟩ ⟨_, rfl, rfl, rfl, rfl, by kernel_rfl⟩ ⟨_, rfl, rfl, rfl, rfl, by kernel_rfl⟩ ⟨_, rfl, rfl, rfl, rfl, by kernel_rfl⟩ ⟨_, rfl, rfl, rfl, rfl, by kernel_rfl⟩ ⟨_, rfl, rfl, rfl, rfl, by kernel_rfl⟩ ⟨_, rfl, rfl, rfl, rfl, by kernel_rfl⟩ ⟨_, rfl, rfl, rfl, rfl, by kernel_rfl⟩ ⟨_, rfl, rfl, rfl, rfl, by kernel_rfl⟩ ⟨_, rfl, rfl, rfl, rfl, by kernel_rfl⟩ ⟨_, rfl, rfl, rfl, rfl, by kernel_rfl⟩ (Hf.out.drewN 1) (fun w => run_ix37 z9 K c9 m hmK w) (fun W h => run_load31 (own_cellE h.own16 hmK)) (fun w => run_ix38 z8 K c10 m hmK w) (fun W h => by have := own_cellE h.own17 hmK; rw [HE.out.2] at this; exact run_load34 this) (fun W h => by have := h.both.same h.many hmK (j : Int); rw [HE.out.2] at this; exact this.mono (fun e w' h' => ⟨h'.1, h'.2, h.next h'.2⟩)) rfl rfl rfl rfl (Nat.le_of_ble_eq_true rfl) ?_
                  intro a W9 hs hd hkp hS9 hval
                  have e228 : a.tmps.getD 228 undef = .bool false := hval 10 228 (by decide) rfl
                  have ep := frame_puts [218, 219, 220, 221, 222, 223, 224, 225, 226, 227, 228] hs hd (fun s h => hkp s (fun i hi e => h (by
                    rcases (show i = 0 ∨ i = 1 ∨ i = 2 ∨ i = 3 ∨ i = 4 ∨ i = 5 ∨ i = 6 ∨ i = 7 ∨ i = 8 ∨ i = 9 ∨ i = 10 by omega) with rfl | rfl | rfl | rfl | rfl | rfl | rfl | rfl | rfl | rfl | rfl <;> (simp only [sbD, Option.some.injEq] at e; subst e; simp))))
                  simp only [List.foldl] at ep
                  rw [e228] at ep
                  have H9 := hidden_ hS9
                  clear hs hd hkp hval hS9 e228
                  generalize a.tmps.getD 218 undef = g218 at ep
                  generalize a.tmps.getD 219 undef = g219 at ep
                  generalize a.tmps.getD 220 undef = g220 at ep
                  generalize a.tmps.getD 221 undef = g221 at ep
                  generalize a.tmps.getD 222 undef = g222 at ep
                  generalize a.tmps.getD 223 undef = g223 at ep
                  generalize a.tmps.getD 224 undef = g224 at ep
                  generalize a.tmps.getD 225 undef = g225 at ep
                  generalize a.tmps.getD 226 undef = g226 at ep
                  generalize a.tmps.getD 227 undef = g227 at ep
                  simp only [Act.put, List.setIfInBounds_toArray, List.set_cons_succ, List.set_cons_zero] at ep
                  subst ep
                  go_wp2
                  go_roundw
                  case rel => exact ⟨j + 1, by have := HE.out.1; omega, by go_num, H9.out⟩
                  case measure => have := HE.out.1; simp [intOf]; omega
                · have e : j = n0 := by omega
                  subst e
                  go_wp2
                  go_roundw
                  case rel => exact ⟨m + 1, by omega, by go_num, Hf.out⟩
                  case measure => simp [intOf]; omega
            · have e : m = K := by omega
              subst e
              have Hg := hidden_ hf.below
              clear hf
              go_wp2
              go_ret
              exact ⟨rfl, Hg.out⟩
        · have y1' : ¬ (k : Int) < (n3 : Int) := by omega
          go_wp2
          go_loopw [23] (fun i W => ∃ m : Nat, m ≤ K ∧ i = .int .i64 m ∧ DoS w.heap.size w W b g bd gd a2 wd N K s Q X X2 r (.slice (some z9) K c9) (.slice (some z8) K c10) k) (fun i _ => K - (intOf i).toNat)
          case atStart => exact ⟨0, Nat.zero_le _, rfl, Hf.out⟩
          case round =>
            clear Hf
            obtain ⟨m, hm, rfl, hf⟩ := hrel
            by_cases hmK : m < K
            · have Hg := hidden_ hf
              clear hf
              go_wp2
              go_loopw [24] (fun i W => ∃ j : Nat, j ≤ (Q m).n ∧ i = .int .i64 j ∧ DoS w.heap.size w W b g bd gd a2 wd N K s Q X X2 r (.slice (some z9) K c9) (.slice (some z8) K c10) k) (fun i _ => (Q m).n - (intOf i).toNat)
              case atStart => exact ⟨0, Nat.zero_le _, rfl, Hg.out⟩
              case round =>
                clear Hg
                obtain ⟨j, hj, rfl, hf⟩ := hrel
                have g8 := own_cellE hf.own17 hmK
                have g5 := hf.both.nAt hmK
                have hfew := (hf.many.ok m hmK).few
                obtain ⟨n0, en⟩ : ∃ n0, (Q m).n = n0 := ⟨_, rfl⟩
                obtain ⟨ym, eym⟩ : ∃ ym, X2 m = ym := ⟨_, rfl⟩
                rw [en] at g5 hj hfew
                rw [eym] at g8 g5
                have HE := hidden_ (And.intro en eym)
                have Hf := hidden_ hf
                clear hf en eym
                by_cases hjn : j < n0
                · go_wp2
                  refine sb_region (X m) ym m K c9 K c10 z9 z8 (j : Int) (fun W => DoS w.heap.size w W b g bd gd a2 wd N K s Q X X2 r (.slice (some z9) K c9) (.slice (some z8) K c10) k) (by kernel_rfl) rfl ⟨_, rfl, rfl, rfl, rfl, by kernel_rfl⟩ ⟨_, rfl, rfl, rfl, rfl, by kernel_rfl⟩ ⟨_, rfl, rfl, rfl, rfl, by kernel_rfl⟩ ⟨_, rfl, rfl, rfl, rfl, by kernel_rfl⟩ ⟨_, rfl, rfl, rfl, rfl, by kernel_rfl⟩ ⟨_, rfl, rfl, rfl, rfl, by kernel_rfl⟩ ⟨_, rfl, rfl, rfl, rfl, by kernel_rfl⟩ ⟨_, rfl, rfl, rfl, rfl, by kernel_rfl⟩ ⟨_, rfl, rfl, rfl, rfl, by kernel_rfl⟩ ⟨_, rfl, rfl, rfl, rfl, by kernel_rfl⟩ ⟨_, rfl, rfl, rfl, rfl, by kernel_rfl⟩ (Hf.out.drewN 1) (fun w => run_ix37 z9 K c9 m hmK w) (fun W h => run_load31 (own_cellE h.own16 hmK)) (fun w => run_ix38 z8 K c10 m hmK w) (fun W h => by have := own_cellE h.own17 hmK; rw [HE.out.2] at this; exact run_load34 this) (fun W h => by have := h.both.same h.many hmK (j : Int); rw [HE.out.2] at this; exact this.mono (fun e w' h' => ⟨h'.1, h'.2, h.next h'.2⟩)) rfl rfl rfl rfl (Nat.le_of_ble_eq_true rfl) ?_
                  intro a W9 hs hd hkp hS9 hval
                  have e228 : a.tmps.getD 228 undef = .bool false := hval 10 228 (by decide) rfl
                  have ep := frame_puts [218, 219, 220, 221, 222, 223, 224, 225, 226, 227, 228] hs hd (fun s h => hkp s (fun i hi e => h (by
                    rcases (show i = 0 ∨ i = 1 ∨ i = 2 ∨ i = 3 ∨ i = 4 ∨ i = 5 ∨ i = 6 ∨ i = 7 ∨ i = 8 ∨ i = 9 ∨ i = 10 by omega) with rfl | rfl | rfl | rfl | rfl | rfl | rfl | rfl | rfl | rfl | rfl <;> (simp only [sbD, Option.some.injEq] at e; subst e; simp))))
                  simp only [List.foldl] at ep
                  rw [e228] at ep
                  have H9 := hidden_ hS9
                  clear hs hd hkp hval hS9 e228
                  generalize a.tmps.getD 218 undef = g218 at ep
                  generalize a.tmps.getD 219 undef = g219 at ep
                  generalize a.tmps.getD 220 undef = g220 at ep
                  generalize a.tmps.getD 221 undef = g221 at ep
                  generalize a.tmps.getD 222 undef = g222 at ep
                  generalize a.tmps.getD 223 undef = g223 at ep
                  generalize a.tmps.getD 224 undef = g224 at ep
                  generalize a.tmps.getD 225 undef = g225 at ep
                  generalize a.tmps.getD 226 undef = g226 at ep
                  generalize a.tmps.getD 227 undef = g227 at ep
                  simp only [Act.put, List.setIfInBounds_toArray, List.set_cons_succ, List.set_cons_zero] at ep
                  subst ep
                  go_wp2
                  go_roundw
                  case rel => exact ⟨j + 1, by have := HE.out.1; omega, by go_num, H9.out⟩
                  case measure => have := HE.out.1; simp [intOf]; omega
                · have e : j = n0 := by omega
                  subst e
                  go_wp2
                  go_roundw
                  case rel => exact ⟨m + 1, by omega, by go_num, Hf.out⟩
                  case measure => simp [intOf]; omega
            · have e : m = K := by omega
              subst e
              have Hg := hidden_ hf.below
              clear hf
              go_wp2
              go_ret
              exact ⟨rfl, Hg.out⟩
  · have k9 : Hid (∀ b W, Calls Try.prog 9 #[.pointer (some ⟨b, 0, none⟩), .string a2, .int .i64 a1] W fun e w' => e = .returned (.tuple #[.pointer none, .int .i64 20]) ∧ w' = W) := fun b W => new_no13 b a2 a1 (by by_cases h : a2.toList = [] <;> simp [h] at hyes ⊢; omega) W
    have k10 : Hid (∀ b W, Calls Try.prog 10 #[.pointer (some ⟨b, 0, none⟩), .string a2, .int .i64 a1] W fun e w' => e = .returned (.tuple #[.pointer none, .int .i64 20]) ∧ w' = W) := fun b W => rnew_no b a2 a1 (by by_cases h : a2.toList = [] <;> simp [h] at hyes ⊢; omega) W
    clear hyes
    go_enter Try.func3, Try.ntmps3
    go_wp2_with (first
      | (go_at_call 7; refine (k7 _).mono ?_; rintro e W1 ⟨rfl, -, hb1⟩; have H1 := hidden_ hb1; clear k7 hb1)
      | (go_at_call 8; refine (k8 _).mono ?_; rintro e W2 ⟨rfl, -, hb2⟩; have H2 := hidden_ (below_then H1.out hb2); have q9 := k9.out (w.heap.size + 1) W2; have q10 := k10.out (W1.heap.size + 1) W2; clear k8 hb2)
      | (go_at_call 9; refine q9.mono ?_; rintro e W3 ⟨rfl, h3⟩; obtain rfl := h3.symm; clear q9)
      | (go_at_call 10; refine q10.mono ?_; rintro e W3 ⟨rfl, h3⟩; obtain rfl := h3.symm; clear q10))
    go_ret
    exact ⟨rfl, H2.out⟩

theorem contract (H : Type) (enc : TypeId × Value → H) (W : World) (base : Nat) (args : Array Value) (ds gs : List (DataW H)) (before : List MemPlace)
    (hval0 : ∀ (j : Nat) t v, Try.f3.params[j]? = some t → args[j]? = some v → Value.okWide Try.prog W .any base t v)
    (hW : DataW.Whole enc Try.prog Try.f3.params.toList Rows.kvDoesSpec.vars false W args.toList ds gs before)
    (hsz0 : (DataW.weightsEach Try.prog (Try.f3.params.toList ++ Rows.kvDoesSpec.plain.varTypes Try.prog) (ds ++ gs)).all (· ≤ reachBytes) = true) :
    Calls Try.prog 3 args W fun e W' => ∃ v, e = .returned v ∧ Rows.kvDoesSpec.post enc Try.prog Try.f3 false true false false W args v W' := by
  have hval : ∀ (j : Nat) t v, Try.f3.params[j]? = some t → args[j]? = some v → Value.okWide Try.prog W .any base t v := hval0
  have hW' := hW
  obtain ⟨p, q, hA0, hV, rfl, hfz, hnd⟩ := hW
  have hA : DataW.TrodAll enc Try.prog W 0 (fun _ => true) true Try.f3.params.toList args.toList ds p := hA0
  have hsz : (DataW.weightsEach Try.prog (Try.f3.params.toList ++ Rows.kvDoesSpec.plain.varTypes Try.prog) (ds ++ gs)).all (· ≤ reachBytes) = true := hsz0
  rw [Try.params3] at hA hval hsz
  obtain ⟨v0, vs0, d0, ds0, p0, q0, hargs, rfl, rfl, h0, r0⟩ := trodAll_cons hA
  obtain ⟨v1, vs1, d1, ds1, p1, q1, rfl, rfl, rfl, h1, r1⟩ := trodAll_cons r0
  obtain ⟨v2, vs2, d2, ds2, p2, q2, rfl, rfl, rfl, h2, r2⟩ := trodAll_cons r1
  obtain ⟨v3, vs3, d3, ds3, p3, q3, rfl, rfl, rfl, h3, r3⟩ := trodAll_cons r2
  obtain ⟨rfl, rfl, rfl⟩ := trodAll_nil r3
  obtain rfl : args = #[v0, v1, v2, v3] := by cases args; simp_all
  obtain ⟨rfl, rfl⟩ := trodVars_none hV
  obtain ⟨a0, rfl, rfl, rfl, w0⟩ := open_int Try.underlying3 (hval 0 3 v0 rfl rfl) h0
  obtain ⟨a1, rfl, rfl, rfl, w1⟩ := open_int Try.underlying3 (hval 1 3 v1 rfl rfl) h1
  obtain ⟨a2, rfl, rfl, rfl, w2⟩ := Go.ChangeMaps.open_string Try.underlying9 (hval 2 9 v2 rfl rfl) h2
  obtain ⟨a3, n3, c3, rfl⟩ := okWide_slice Try.underlying22 (hval 3 22 v3 rfl rfl)
  have k3 := h3
  have lt3 : ∀ x ∈ p3, x.block < W.heap.size := by obtain ⟨m, hm⟩ := k3; exact DataW.trod_lt m _ _ _ hm
  obtain ⟨O3, w3, e3, l3, s3⟩ := open_ops h3
  have b3 : ∀ i, i < n3 → (O3 i).zw.length * 8 ≤ 140737488351232 := s3 fun q hq => of_decide_eq_true (List.all_eq_true.1 hsz q (DataW.weights_mem_each (j := 3) rfl rfl q hq))
  clear hA0 hval0
  refine (walk a0 a1 a2 a3 n3 c3 O3 W w0 w1 w2 w3 e3 l3 b3).mono fun e W' ⟨he, bel⟩ => ?_
  subst he
  exact ⟨_, rfl, _, _, _, [], _, [], hW', trodAll_mk1 (shut_bool Try.underlying4 _), (trodAll_cons_mk (shut_int Try.underlying3 w0) (trodAll_cons_mk (shut_int Try.underlying3 w1) (trodAll_cons_mk (Go.ChangeMaps.shut_string Try.underlying9 w2) (trodAll_cons_mk (Below.trod laidOut (by kernel_rfl) (of_decide_eq_true (by kernel_rfl)) k3 bel lt3) trodAll_mk0)))), rfl, bel.frame _, fun h => by cases h⟩

set_option maxRecDepth 100000 in
theorem lifted (os : Os) (started : os.Started) (H : Type) (enc : TypeId × Value → H) :
    ReturnsInHanded {} Try.checked os 3 .any (Rows.kvDoesSpec.pre6 enc Try.prog Try.f3 Rows.kvDoesRow.domain false) (Rows.kvDoesSpec.post enc Try.prog Try.f3 false true false false) := by
  refine returnsInHanded_of_change_sized (C := Try.checked) own started (by kernel_rfl) Try.func3
    (ChangeSpec.witness6 (enc := enc) (C := Try.checked) false ⟨#[], #[.int .i64 0, .int .i64 0, .string ⟨#[]⟩, .slice none 0 0], []⟩ 8 (by kernel_rfl) (by kernel_rfl) (by kernel_rfl) (by kernel_rfl)) ?_
  intro W base args ds gs before hval hW _ hsz _
  exact contract H enc W base args ds gs before hval hW hsz

theorem over : Rows.kvDoesRow.holds Try.pinned (OpenSpec.ofChange Rows.kvDoesSpec) :=
  OpenClaim.holds_of_wide 3 Try.f3 rfl rfl rfl rfl rfl rfl rfl ⟨rfl, rfl, rfl, rfl, rfl⟩ rfl rfl rfl rfl rfl (by kernel_rfl) Try.func3 (by kernel_rfl)
    (of_decide_eq_true (by kernel_rfl)) (by unfold Func.isWrapper; first | (rw [if_pos (by decide +kernel)]; kernel_rfl) | (rw [if_neg (by decide +kernel)]; exact ⟨rfl, rfl⟩))
    (fun os started H enc _ => lifted os started H enc)

theorem proved : Rows.KvDoesSaid :=
  over
#print axioms proved
end Go.Proofs.Ytgjjeggopeppfaa.kvDoes
