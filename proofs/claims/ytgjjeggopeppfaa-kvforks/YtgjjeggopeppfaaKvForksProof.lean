/- KvForks, of layer 13: a row that is there is as it was appended, whatever forks append, keep and release; with all released no page is theirs. -/
import Derived.Test.YtgjjeggopeppfaaRows
import Derived.Test.YtgjjeggopeppfaaPages
import Derived.Test.YtgjjeggopeppfaaView
import Derived.Test.YtgjjeggopeppfaaOwn
import Derived.Test.YtgjjeggopeppfaaLeast
import Derived.Test.YtgjjeggopeppfaaLays
import Derived.Test.YtgjjeggopeppfaaTurns
import Derived.Test.YtgjjeggopeppfaaGoods
import Derived.Test.YtgjjeggopeppfaaNews
import Derived.Test.YtgjjeggopeppfaaCount
import Derived.Test.YtgjjeggopeppfaaLies
import Derived.Test.YtgjjeggopeppfaaSeqs
import Derived.Test.YtgjjeggopeppfaaSeqAt
import Derived.Test.YtgjjeggopeppfaaSeqRd
import Derived.Test.YtgjjeggopeppfaaSeqNeed
import Derived.Test.YtgjjeggopeppfaaReadsP
import Derived.Test.YtgjjeggopeppfaaReadsQ
import Derived.Test.YtgjjeggopeppfaaRoom1
import Derived.Test.YtgjjeggopeppfaaRoom
import Derived.Test.YtgjjeggopeppfaaCopyLast
import Derived.Test.YtgjjeggopeppfaaAppend
import Derived.Test.YtgjjeggopeppfaaPagesOf
import Derived.Test.YtgjjeggopeppfaaForks
import Derived.Test.YtgjjeggopeppfaaKeep
import Derived.Test.YtgjjeggopeppfaaRows13
import Derived.Test.YtgjjeggopeppfaaManySq
import Derived.Test.YtgjjeggopeppfaaManyRoom
import Derived.Test.YtgjjeggopeppfaaManyActs
import Derived.Test.YtgjjeggopeppfaaSeqsIn
import Derived.Test.YtgjjeggopeppfaaSame64
import Derived.Test.YtgjjeggopeppfaaSolo
import Derived.Test.YtgjjeggopeppfaaWorks13
import Derived.Test.YtgjjeggopeppfaaRest
import Derived.Test.YtgjjeggopeppfaaOpenOps
import Derived.Test.YtgjjeggopeppfaaFkS
import Derived.Test.YtgjjeggopeppfaaFkE
import Derived.WalkKit
import Derived.ProofKit
import Derived.OpenShut
import Derived.ChangeOld
import Derived.Below
import Derived.WalkLawsBesides
import Derived.ChangeMaps5
import Derived.Deep.QuietTactic
import Derived.BigQuiet
import Derived.OwnWalk
import Derived.Deep.RegionHeld3
import Derived.Laws.OwnMore
import Derived.Deep.CutRange
import Derived.Deep.CutBlock
import Derived.SizedLaws
namespace Go.Proofs.Ytgjjeggopeppfaa.kvForks
open Go.ChangeShapes Go.WideShapes Go.ChangeAt Go.RowKit
set_option linter.unusedVariables false
set_option linter.unusedSimpArgs false

theorem own : ownKnob Try.prog.godebug = none := by kernel_rfl
theorem laidOut : laidOutB Try.prog = true := by kernel_rfl



set_option maxHeartbeats 8000000 in
set_option maxRecDepth 20000 in
theorem walk (a0 : Int) (a1 : Option Addr) (n1 c1 : Nat) (O1 : Nat → OpV) (w : World) (w0 : (Lit.int .i64 a0).wf = true) (w1 : OpsAt w a1 n1 O1) (e1 : a1 = none → c1 = 0) (l1 : n1 ≤ c1) (b1 : ∀ i, i < n1 → (O1 i).zw.length * 8 ≤ 140737488351232) :
    Calls Try.prog 4 #[.int .i64 a0, .slice a1 n1 c1] w fun e w' => e = .returned (.bool true) ∧ Below w.heap.size w w' := by
  obtain ⟨M0, hM0, (e0 : (IntKind.u64.wrap a0).tmod 32 = (M0 : Int)), (e0' : IntKind.u64.wrap a0 % 32 = (M0 : Int))⟩ := restN a0 32 (by decide)
  obtain ⟨wd, ew⟩ : ∃ wd : Nat, 1 + M0 = wd := ⟨_, rfl⟩
  have ew' : (1 : Int) + (M0 : Int) = (wd : Int) := by omega
  have wd0 : 1 ≤ wd := by omega
  have wd1 : wd ≤ 32 := by omega
  clear ew
  have hmx := w1.max
  have HOps := hidden_ w1
  have k22 := works_call w
  have k7 := fun (W : World) => (show Calls Try.prog 7 #[.int .i64 64] W _ from new_call 64 (by decide) (by decide) W)
  have k9 : Hid (∀ b W, Calls Try.prog 9 #[.pointer (some ⟨b, 0, none⟩), .string ⟨#[114]⟩, .int .i64 wd] W fun e w' => ∃ x, e = .returned (.tuple #[.pointer (some ⟨x, 0, none⟩), .int .i64 0]) ∧ W.heap.size ≤ x ∧ (∀ B, B ≤ W.heap.size → SeqAt B w' x b ⟨#[114]⟩ wd ⟨[], 0, 0⟩ none 0) ∧ Below W.heap.size W w') := fun b W => new_call13 b ⟨#[114]⟩ wd tR_ne wd0 wd1 W
  have k11 : Hid (∀ (z : Int), 0 ≤ z → z ≤ 1000 → ∀ W, Calls Try.prog 11 #[.int .i64 wd, .int .i64 z] W fun e w' => ∃ ra rc, e = .returned (.slice ra wd rc) ∧ RowJ W.heap.size w' ra wd rc (lawRow wd z) ∧ Below W.heap.size W w') := fun z h0 h1 W => lawRow_call wd z h0 h1 wd1 W
  clear w1
  go_enter Try.func4, Try.ntmps4
  go_wp2_with (first
    | (go_at_call 22; refine k22.mono ?_; rintro e W1 ⟨rfl, hb1⟩; have q7 := k7 W1; have H1 := hidden_ hb1; clear k22 k7 hb1)
    | (go_at_call 7; refine q7.mono ?_; rintro e W2 ⟨rfl, hp2, hb2⟩; have q9 := k9.out (W1.heap.size + 1) W2; have H2 := hidden_ (And.intro (hp2 w.heap.size H1.out.size) (below_then H1.out hb2)); clear q7 hp2 hb2)
    | (go_at_call 9; refine q9.mono ?_; rintro e W3 ⟨x, rfl, hx, hs3, hb3⟩; have H3 := hidden_ (fks_new (seqs_new (H2.out.1.below hb3) (hs3 w.heap.size H2.out.2.size)) (below_then H2.out.2 hb3) wd0 wd1); clear hs3 hb3 q9))
  obtain ⟨b, eb⟩ : ∃ b, W1.heap.size + 1 = b := ⟨_, rfl⟩
  obtain ⟨g, eg⟩ : ∃ g, W1.heap.size = g := ⟨_, rfl⟩
  rw [eb, eg] at H3
  rw [eb]
  clear H1 H2 eb eg hx e0 e0' ew'
  go_loopw [9, 10, 11] (fun v9 v10 i wr => ∃ k : Nat, k ≤ n1 ∧ k ≤ 40 ∧ i = .int .i64 k ∧ ∃ K s Q X E Y, FkS w.heap.size w wr b g wd K s Q X E Y v9 v10 ∧ ∀ j, j < K → (E j).length ≤ k) (fun _ _ i _ => n1 - (intOf i).toNat)
  case atStart => exact ⟨0, Nat.zero_le _, Nat.zero_le _, rfl, 1, _, _, _, _, _, H3.out, fun j hj => Nat.le_refl _⟩
  case round =>
    clear H3
    obtain ⟨k, hk, hk', rfl, K, s, Q, X, E, Y, hF, hEl⟩ := hrel
    obtain ⟨a9, c9, rfl⟩ := own_form hF.own9
    obtain ⟨a10, c10, rfl⟩ := own_form hF.own10
    have hK6 := hF.few
    have hK1 := hF.pos
    by_cases hlt : k < n1 ∧ k < 40
    · obtain ⟨y1, y2⟩ := hlt
      have y1' : (k : Int) < (n1 : Int) := by omega
      have y2' : (k : Int) < 40 := by omega
      obtain ⟨x, rfl⟩ := HOps.out.some_ (by omega)
      have hOk := (HOps.out.below hF.below).ok k y1
      have cx := (HOps.out.below hF.below).cell x rfl k y1
      obtain ⟨o, eo⟩ : ∃ o, O1 k = o := ⟨_, rfl⟩
      rw [eo] at hOk cx
      obtain ⟨ok, oq, ⟨wa, wn, wc⟩, zw, on⟩ := o
      simp only [SL.v] at cx
      obtain ⟨PA, ePA⟩ : ∃ PA, x.add (k * 4) = PA := ⟨_, rfl⟩
      rw [ePA] at cx
      obtain ⟨cx0, cx1, cx2, cx3⟩ := cx
      have cx1' : wr.cell? ⟨PA.block, PA.off + 1, none⟩ = some (.int .i64 oq) := cx1
      have cx2' : wr.cell? ⟨PA.block, PA.off + 2, none⟩ = some (.slice wa wn wc) := cx2
      have cx3' : wr.cell? ⟨PA.block, PA.off + 3, none⟩ = some (.int .i64 on) := cx3
      clear cx1 cx2 cx3
      have hwn : on ≤ 9223372036854775807 := by
        have := hOk.wn
        simp [Lit.wf, IntKind.min, IntKind.max, IntKind.signed, IntKind.bits] at this
        omega
      obtain ⟨M, hM, (eM : (IntKind.u64.wrap oq).tmod (K : Int) = (M : Int)), (eM' : IntKind.u64.wrap oq % (K : Int) = (M : Int))⟩ := restN oq K (by omega)
      have hKu := wrapU (K := K) (by omega)
      have hKz : ¬ ((K : Int) = 0) := by omega
      have hbA := below_new (Below.refl wr.heap.size wr) (.cells #[.int .i64 ok, .int .i64 oq, .slice wa wn wc, .int .i64 on] 41)
      obtain ⟨A, eA⟩ : ∃ A, wr.alloc (.cells #[.int .i64 ok, .int .i64 oq, .slice wa wn wc, .int .i64 on] 41) = A := ⟨_, rfl⟩
      have hbx := BoxO.new wr ⟨ok, oq, ⟨wa, wn, wc⟩, zw, on⟩
      unfold boxC at hbx
      simp only at hbx
      rw [eA] at hbA hbx
      have hFA := hF.next hbA
      obtain ⟨d0, d1, d2, d3⟩ := BoxO.cells hbx
      simp only at d0 d1 d2 d3
      obtain ⟨x9, rfl, d9⟩ := own_cell hFA.own9 (ptrs_at X K M hM)
      have HF := hidden_ (And.intro hFA hEl)
      have HX := hidden_ hbx
      have kr := k11.out k (by omega) (by omega)
      clear hF hFA hOk hbx hEl eo
      go_upto_block 2 with fail
      go_cut [9, 10] from 48 to 201 (fun v9 v10 wx => ∃ K2 s2 Q2 X2 E2 Y2, FkS w.heap.size w wx b g wd K2 s2 Q2 X2 E2 Y2 v9 v10 ∧ ∀ j, j < K2 → (E2 j).length ≤ k + 1)
      case first =>
        by_cases z0 : ok = 0
        · subst z0
          by_cases h0 : appE wd tR s (Q M) (lawRow wd k) = 0
          · skip
            have hnM : (Q M).n < 1000 := by have := HF.out.1.len M hM; have := HF.out.2 M hM; omega
            have ka : Hid (∀ W ra rc, Below A.heap.size A W → RowJ A.heap.size W ra wd rc (lawRow wd k) → Calls Try.prog 12 #[.pointer (some ⟨X M, 0, none⟩), .slice ra wd rc] W fun e w' => e = .returned (.int .i64 (appE wd tR s (Q M) (lawRow wd k))) ∧ SeqsIn w.heap.size w' b g tR wd (appS wd tR s (Q M) (lawRow wd k)) K (upd Q M (appQ wd tR s (Q M) (lawRow wd k))) X ∧ Off w.heap.size TS W w') := fun W ra rc hb hr => (HF.out.1.next hb).seqs.append HF.out.1.many hM hnM hr
            have d9p := hidden_ (show X M = X M from rfl)
            obtain ⟨xm, exm⟩ : ∃ xm, X M = xm := ⟨_, rfl⟩
            rw [exm] at ka d9
            rw [h0] at ka
            have hca : Hid (∀ W, FkS w.heap.size w W b g wd K s Q X E Y (.slice (some x9) K c9) (.slice a10 K c10) → W.cell? (x9.add M) = some (.pointer (some ⟨xm, 0, none⟩))) := fun W h => (own_cell_at h.own9 hM).trans (by rw [exm])
            have hcb : Hid (∀ W W', FkS w.heap.size w W b g wd K s Q X E Y (.slice (some x9) K c9) (.slice a10 K c10) → Off w.heap.size TS W W' → W'.cell? (x9.add M) = some (.pointer (some ⟨xm, 0, none⟩))) := fun W W' h o => (own_cell_at (own_off h.own9 o rfl) hM).trans (by rw [exm])
            replace kr := kr (A.drewN 1)
            go_wp2
            go_region_held3 (fun W => W.cell? (x9.add M) = some (.pointer (some ⟨xm, 0, none⟩))) (first | assumption | (exact d9) | exact d9a | exact d9b) (first
              | (go_at_call 11; refine kr.mono ?_; rintro e W4 ⟨ra, rc, rfl, hr4, hb4⟩; have hb4' : Below A.heap.size A W4 := ⟨hb4.os, hb4.tape, hb4.output, hb4.size, hb4.block⟩; have q12 := ka.out W4 ra rc hb4' hr4; have d9a := hca.out W4 (HF.out.1.next hb4'); have H4 := hidden_ hb4'; clear hr4 hb4 hb4' kr)
              | (go_at_call 12; refine q12.mono ?_; rintro e W5 ⟨rfl, hs5, ho5⟩; have d9b := hcb.out W4 W5 (HF.out.1.next H4.out) ho5; have H5 := hidden_ (And.intro hs5 ho5); clear hs5 ho5 q12))
            obtain ⟨x10, ca, cc, W6, ca', cc', W7, ebk, cl0, eq1, eq2, clA, cl3, fr3, hfk⟩ := (HF.out.1.next H4.out).app hM k (by omega) (by have := HF.out.2 M hM; omega) h0 H5.out.1 H5.out.2
            obtain ⟨y10, ey10⟩ : ∃ y10, a10 = some y10 := by
              cases a10 with
              | none => cases ebk
              | some y => exact ⟨y, rfl⟩
            subst ey10
            obtain rfl := own_zero HF.out.1.own10 ebk
            obtain ⟨ya, yn, yc, ey⟩ : ∃ ya yn yc, Y M = ⟨ya, yn, yc⟩ := ⟨_, _, _, rfl⟩
            simp only [ey] at cl0 eq1 eq2 clA cl3 hfk
            have HFK := hidden_ hfk
            have HEl := hidden_ (And.intro HF.out.2 (HF.out.1.pos))
            have hM' : (M : Int) < (K : Int) := by omega
            clear hfk H5 ey
            go_wp2_with (first
              | (at_builtin; refine wpList_append_run rfl (.tmp 85) (.tmp 89) 39 rfl 39 rfl _ _ rfl rfl _ _ eq1 ?_)
              | (at_builtin; refine wpList_append_run rfl (.tmp 90) (.tmp 92) 39 rfl 39 rfl _ _ rfl rfl _ _ eq2 ?_))
            go_meet
            case rel => exact ⟨K, _, _, X, _, _, HFK.out, fun j hj => by
              by_cases e : j = M
              · subst e; rw [upd_same, List.length_append]; exact Nat.succ_le_succ (HEl.out.1 j hj)
              · rw [upd_other _ _ _ _ e]; exact Nat.le_succ_of_le (HEl.out.1 j hj)⟩
          · skip
            have h0' : appE wd tR s (Q M) (lawRow wd k) ≠ 0 := h0
            have hnM : (Q M).n < 1000 := by have := HF.out.1.len M hM; have := HF.out.2 M hM; omega
            have ka : Hid (∀ W ra rc, Below A.heap.size A W → RowJ A.heap.size W ra wd rc (lawRow wd k) → Calls Try.prog 12 #[.pointer (some ⟨X M, 0, none⟩), .slice ra wd rc] W fun e w' => e = .returned (.int .i64 (appE wd tR s (Q M) (lawRow wd k))) ∧ SeqsIn w.heap.size w' b g tR wd (appS wd tR s (Q M) (lawRow wd k)) K (upd Q M (appQ wd tR s (Q M) (lawRow wd k))) X ∧ Off w.heap.size TS W w') := fun W ra rc hb hr => (HF.out.1.next hb).seqs.append HF.out.1.many hM hnM hr
            have d9p := hidden_ (show X M = X M from rfl)
            obtain ⟨xm, exm⟩ : ∃ xm, X M = xm := ⟨_, rfl⟩
            rw [exm] at ka d9
            obtain ⟨E0, eE0⟩ : ∃ E0, appE wd tR s (Q M) (lawRow wd k) = E0 := ⟨_, rfl⟩
            rw [eE0] at ka h0
            have h1 : (E0 == 0) = false := by simp [h0]
            have hca : Hid (∀ W, FkS w.heap.size w W b g wd K s Q X E Y (.slice (some x9) K c9) (.slice a10 K c10) → W.cell? (x9.add M) = some (.pointer (some ⟨xm, 0, none⟩))) := fun W h => (own_cell_at h.own9 hM).trans (by rw [exm])
            clear eE0
            replace kr := kr (A.drewN 1)
            go_wp2
            go_region_held3 (fun W => W.cell? (x9.add M) = some (.pointer (some ⟨xm, 0, none⟩))) (first | assumption | (exact d9) | exact d9a | exact d9b) (first
              | (go_at_call 11; refine kr.mono ?_; rintro e W4 ⟨ra, rc, rfl, hr4, hb4⟩; have hb4' : Below A.heap.size A W4 := ⟨hb4.os, hb4.tape, hb4.output, hb4.size, hb4.block⟩; have q12 := ka.out W4 ra rc hb4' hr4; have d9a := hca.out W4 (HF.out.1.next hb4'); have H4 := hidden_ hb4'; clear hr4 hb4 hb4' kr)
              | (go_at_call 12; refine q12.mono ?_; rintro e W5 ⟨rfl, hs5, ho5⟩; have H5 := hidden_ ((HF.out.1.next H4.out).app_no hM (lawRow wd k) h0' hs5 ho5); have d9b := hca.out W5 H5.out; clear hs5 ho5 q12))
            go_wp2
            go_meet
            case rel => exact ⟨K, s, Q, X, E, Y, H5.out, fun j hj => Nat.le_succ_of_le (HF.out.2 j hj)⟩
        by_cases z1 : ok = 1
        · subst z1
          by_cases hKl : K < 6
          · skip
            have hK5 : (K : Int) < 6 := by omega
            have k14 := HF.out.1.seqs.fork HF.out.1.many hM
            obtain ⟨xm, exm⟩ : ∃ xm, X M = xm := ⟨_, rfl⟩
            rw [exm] at k14 d9
            clear exm
            go_wp2_with (first
              | (go_at_call 14; refine k14.mono ?_; rintro e W5 ⟨x', rfl, hs5, ho5⟩; obtain ⟨u9, uc9, u9', uc9', W6, u10, uc10, u10', uc10', W7, x10, ev9, ev10, eq9, ex10, cl10, eq10, hfk⟩ := HF.out.1.fork hM hKl hs5 ho5; simp only [Value.slice.injEq, true_and] at ev9 ev10; obtain ⟨ev9a, ev9c⟩ := ev9; obtain ⟨ev10a, ev10c⟩ := ev10; subst ev9a ev9c ev10a ev10c ex10; have H5 := hidden_ hfk; clear hs5 ho5 k14 hfk)
              | (at_builtin; refine wpList_append_run rfl (.tmp 100) (.tmp 106) 37 rfl 37 rfl _ _ rfl rfl _ _ eq9 ?_)
              | (at_builtin; refine wpList_append_run rfl (.tmp 108) (.tmp 113) 54 rfl 54 rfl _ _ rfl rfl _ _ eq10 ?_))
            go_meet
            case rel => exact ⟨K + 1, _, _, _, _, _, H5.out, fun j hj => by
              by_cases e : j = K
              · subst e; rw [upd_same]; exact Nat.le_succ_of_le (HF.out.2 M hM)
              · rw [upd_other _ _ _ _ e]; exact Nat.le_succ_of_le (HF.out.2 j (by omega))⟩
          · skip
            have hK5 : ¬ (K : Int) < 6 := by omega
            go_wp2
            go_meet
            case rel => exact ⟨K, s, Q, X, E, Y, HF.out.1, fun j hj => Nat.le_succ_of_le (HF.out.2 j hj)⟩
        by_cases z2 : ok = 2
        · subst z2
          have d9p := hidden_ (show X M = X M from rfl)
          have k16 := fun m' => (HF.out.1.drewN m').seqs.keep HF.out.1.many hM on hwn
          obtain ⟨xm, exm⟩ : ∃ xm, X M = xm := ⟨_, rfl⟩
          simp only [exm] at k16
          rw [exm] at d9
          have HE := hidden_ exm
          clear exm
          go_wp2
          replace k16 := k16 1
          go_region_held3 (fun W => W.cell? (x9.add M) = some (.pointer (some ⟨xm, 0, none⟩)) ∧ W.cell? ⟨wr.heap.size, 3, none⟩ = some (.int .i64 on)) (first | assumption | (exact ⟨d9, d3⟩) | exact d93) (first
            | (go_at_call 16; refine k16.mono ?_; rintro e W5 ⟨rfl, hs5, ho5⟩; have ho6 : Off w.heap.size TS A W5 := ⟨ho5.os, ho5.tape, ho5.output, ho5.size, ho5.block⟩; have H5 := hidden_ (HF.out.1.keep hM on hs5 ho6); have d93 := And.intro ((own_cell_at (H5.out.own9) hM).trans (by rw [HE.out])) (BoxO.cells (HX.out.off ho6 rfl)).2.2.2; clear hs5 ho5 ho6 k16))
          go_wp2
          go_meet
          case rel => exact ⟨K, _, _, X, E, Y, H5.out, fun j hj => Nat.le_succ_of_le (HF.out.2 j hj)⟩
        by_cases z3 : ok = 3
        · subst z3
          have k18 := HF.out.1.seqs.end_ HF.out.1.many hM
          obtain ⟨xm, exm⟩ : ∃ xm, X M = xm := ⟨_, rfl⟩
          rw [exm] at k18 d9
          clear exm
          go_wp2_with (first | (go_at_call 18; refine k18.mono ?_; rintro e W5 ⟨rfl, hs5, ho5⟩; have H5 := hidden_ (HF.out.1.end_ hM hs5 ho5); clear hs5 ho5 k18))
          go_meet
          case rel => exact ⟨K, _, _, X, E, Y, H5.out, fun j hj => Nat.le_succ_of_le (HF.out.2 j hj)⟩
        have b0 : (ok == 0) = false := by simp; omega
        have b1 : (ok == 1) = false := by simp; omega
        have b2 : (ok == 2) = false := by simp; omega
        have b3 : (ok == 3) = false := by simp; omega
        go_wp2
        go_meet
        case rel => exact ⟨K, s, Q, X, E, Y, HF.out.1, fun j hj => Nat.le_succ_of_le (HF.out.2 j hj)⟩
      case rest =>
        clear HF HX kr d9 d0 d1 d2 d3 hM eM eM'
        obtain ⟨K2, s2, Q2, X2, E2, Y2, hG2, hE2⟩ := hcut
        obtain ⟨a9', c9', rfl⟩ := own_form hG2.own9
        obtain ⟨a10', c10', rfl⟩ := own_form hG2.own10
        have hK26 := hG2.few
        have HG := hidden_ (And.intro hG2 hE2)
        clear hG2 hE2
        go_wp2
        go_loopw [14] (fun j wr' => ∃ m : Nat, m ≤ K2 ∧ j = .int .i64 m ∧ FkS w.heap.size w wr' b g wd K2 s2 Q2 X2 E2 Y2 (.slice a9' K2 c9') (.slice a10' K2 c10')) (fun j _ => K2 - (intOf j).toNat)
        case atStart => exact ⟨0, Nat.zero_le _, rfl, HG.out.1⟩
        case round =>
          obtain ⟨m, hm, rfl, hf⟩ := hrel
          by_cases hmK : m < K2
          · have hrow := hf.row m hmK
            have hlen := hf.len m hmK
            have hrl := hrow.len
            have hok := hf.many.ok m hmK
            have hst := hok.st
            have hfew := hok.few
            obtain ⟨z9, rfl, g9⟩ := own_cell hf.own9 (ptrs_at X2 K2 m hmK)
            obtain ⟨z10, rfl, g10⟩ := own_cell hf.own10 (sls_at Y2 K2 m hmK)
            have q23 := fun m' => (hf.drewN m').seqs.len hmK
            have q24 := fun m' => (hf.drewN m').seqs.first hmK
            have hYn : (Y2 m).n = (Q2 m).n := by omega
            obtain ⟨n0, en⟩ : ∃ n0, (Q2 m).n = n0 := ⟨_, rfl⟩
            obtain ⟨st, es⟩ : ∃ st, (Q2 m).st = st := ⟨_, rfl⟩
            obtain ⟨xm, exm⟩ : ∃ xm, X2 m = xm := ⟨_, rfl⟩
            obtain ⟨ya, yn, yc, ey⟩ : ∃ ya yn yc, Y2 m = ⟨ya, yn, yc⟩ := ⟨_, _, _, rfl⟩
            simp only [ey] at g10 hYn hrow
            rw [en] at hYn hst hfew
            subst hYn
            simp only [en, exm] at q23
            simp only [es, exm] at q24
            rw [exm] at g9
            rw [es] at hst
            have HS := hidden_ (And.intro hf (And.intro es (And.intro en (And.intro exm ey))))
            clear hf hrow hlen hrl hok es en exm ey
            go_wp2
            go_quiet (first | (go_at_call 23; exact Calls.quiet_of_same (q23 _)) | (go_at_call 24; exact Calls.quiet_of_same (q24 _)))
            go_wp2_with (first | (go_at_call 24; refine (q24 _).mono ?_; rintro e W7 ⟨rfl, h7⟩; obtain rfl := h7.symm))
            have HQ := hidden_ (HS.out.1.drewN nq)
            go_loopw [15] (fun i wr' => ∃ j : Nat, st ≤ j ∧ j ≤ yn ∧ i = .int .i64 j ∧ FkS w.heap.size w wr' b g wd K2 s2 Q2 X2 E2 Y2 (.slice (some z9) K2 c9') (.slice (some z10) K2 c10')) (fun i _ => yn - (intOf i).toNat)
            case atStart => exact ⟨st, Nat.le_refl _, hst, rfl, HQ.out⟩
            case round =>
              clear HQ q23 q24 g9 g10
              obtain ⟨j, hj1, hj2, rfl, hf⟩ := hrel
              obtain ⟨-, es, en, exm, ey⟩ := HS.out
              have hrow := hf.row m hmK
              have hlen := hf.len m hmK
              have hrl := hrow.len
              obtain ⟨z9', ez9, g9⟩ := own_cell hf.own9 (ptrs_at X2 K2 m hmK)
              obtain rfl := Option.some.inj ez9
              obtain ⟨z10', ez10, g10⟩ := own_cell hf.own10 (sls_at Y2 K2 m hmK)
              obtain rfl := Option.some.inj ez10
              rw [exm] at g9
              simp only [ey] at g10 hrow hrl
              by_cases hjl : j < yn
              · obtain ⟨t1, t2⟩ := hf.tell hmK (k := j) (by omega) (by omega)
                have q25 := hf.seqs.row hf.many hmK (j : Int)
                rw [t1, t2, exm] at q25
                have hsd := hf.seed m hmK ((E2 m).getD j 0) (getD_mem (by omega))
                obtain ⟨ZJ, eZ⟩ : ∃ ZJ, (E2 m).getD j 0 = ZJ := ⟨_, rfl⟩
                rw [eZ] at q25 hsd
                obtain ⟨ya', rfl⟩ := hrow.reads.some_ (by omega)
                have hce : Hid (∀ W, Below wr.heap.size wr W → W.cell? (z10.add m) = some (.slice (some ya') yn yc) ∧ W.cell? (ya'.add j) = some (.int .i64 ZJ) ∧ FkS w.heap.size w W b g wd K2 s2 Q2 X2 E2 Y2 (.slice (some z9) K2 c9') (.slice (some z10) K2 c10')) := fun W hb => by
                  have hf' := hf.next hb
                  refine ⟨?_, ?_, hf'⟩
                  · obtain ⟨z, ez, h⟩ := own_cell hf'.own10 (sls_at Y2 K2 m hmK)
                    obtain rfl := Option.some.inj ez
                    rw [ey] at h
                    exact h
                  · have := (hf'.row m hmK).reads
                    rw [ey] at this
                    rw [this.cell ya' rfl j hjl, eZ]
                clear hf hrow hlen hrl t1 t2 eZ es en exm ey
                go_wp2_with (first
                  | (go_at_call 25; refine q25.mono ?_; rintro e W8 ⟨ra, rl, rc, rfl, hr8, hb8⟩; obtain ⟨u1, u2, u3⟩ := hce.out W8 hb8; have q11 := k11.out ZJ hsd.1 hsd.2 W8; have H8 := hidden_ (And.intro hr8 hb8); clear hr8 hb8 q25 u3)
                  | (go_at_call 11; refine q11.mono ?_; rintro e W9 ⟨rb, rbc, rfl, hr9, hb9⟩; have q26 := same_rows ra rl rc (lawRow wd ZJ) rb wd rbc W9 (H8.out.1.below hb9).reads hr9.reads; have H9 := hidden_ (below_then H8.out.2 hb9); clear hr9 hb9 q11)
                  | (go_at_call 26; refine q26.mono ?_; rintro e WA ⟨rfl, mA, hA⟩; have HA := hidden_ hA; clear hA q26))
                go_roundw
                case rel =>
                  have h9 := (hce.out W9 H9.out).2.2.drewN mA
                  rw [← HA.out] at h9
                  exact ⟨j + 1, by omega, by omega, by go_num, h9⟩
                case measure => simp [intOf]; omega
              · have e : j = yn := by omega
                subst e
                have Hf := hidden_ hf
                clear hf hrow hlen hrl es en exm ey
                go_wp2
                go_roundw
                case rel => exact ⟨m + 1, by omega, by go_num, Hf.out⟩
                case measure => simp [intOf]; omega
          · have e : m = K2 := by omega
            subst e
            have Hf := hidden_ hf
            clear hf
            go_wp2
            go_roundw
            case rel => exact ⟨k + 1, by omega, by omega, by go_num, m, s2, Q2, X2, E2, Y2, Hf.out, HG.out.2⟩
            case measure => simp [intOf]; omega
    · have Hf := hidden_ hF.fin
      have hz : ¬ ((k : Int) < (n1 : Int) ∧ (k : Int) < 40) := by omega
      clear hF hEl
      by_cases hkn : k < n1
      · have y1' : (k : Int) < (n1 : Int) := by omega
        have y2' : ¬ (k : Int) < 40 := by omega
        go_wp2
        go_loopw [18] (fun i wr' => ∃ m : Nat, m ≤ K ∧ i = .int .i64 m ∧ ∃ s Q, FkE w.heap.size w wr' b g wd K s Q X (.slice a9 K c9) m) (fun i _ => K - (intOf i).toNat)
        case atStart => exact ⟨0, Nat.zero_le _, rfl, _, _, Hf.out⟩
        case round =>
          clear Hf
          obtain ⟨m, hm, rfl, s2, Q2, hf⟩ := hrel
          by_cases hmK : m < K
          · obtain ⟨z9, rfl, g9⟩ := own_cell hf.own9 (ptrs_at X K m hmK)
            have k18 := hf.seqs.end_ hf.many hmK
            obtain ⟨xm, exm⟩ : ∃ xm, X m = xm := ⟨_, rfl⟩
            rw [exm] at g9 k18
            have HE := hidden_ hf
            clear hf exm
            go_wp2_with (first | (go_at_call 18; refine k18.mono ?_; rintro e W5 ⟨rfl, hs5, ho5⟩; have H5 := hidden_ (HE.out.step hmK hs5 ho5); clear hs5 ho5 k18))
            go_roundw
            case rel => exact ⟨m + 1, by omega, by go_num, _, _, H5.out⟩
            case measure => simp [intOf]; omega
          · have e : m = K := by omega
            subst e
            obtain ⟨f1, f2⟩ := hf.many.empty (fun i hi => hf.gone i hi hi)
            have k27 := hf.seqs.sizes hf.many
            have k28 := fun m' => (hf.seqs.drewN m').count hf.many
            rw [f1] at k27
            simp only [f2] at k28
            unfold tR at k28
            have HE := hidden_ hf.below
            clear hf f1 f2
            go_wp2_with (first
              | (go_at_call 27; refine k27.mono ?_; rintro e W5 ⟨rfl, m5, h5⟩; have q28 := k28 m5; rw [← h5] at q28; have H5 := hidden_ h5; clear h5 k27 k28)
              | (go_at_call 28; refine q28.mono ?_; rintro e W6 ⟨rfl, h6⟩; obtain rfl := h6.symm; clear q28))
            go_ret
            exact ⟨rfl, by rw [H5.out]; exact ⟨HE.out.os, HE.out.tape, HE.out.output, HE.out.size, HE.out.block⟩⟩
      · have y1' : ¬ (k : Int) < (n1 : Int) := by omega
        go_wp2
        go_loopw [18] (fun i wr' => ∃ m : Nat, m ≤ K ∧ i = .int .i64 m ∧ ∃ s Q, FkE w.heap.size w wr' b g wd K s Q X (.slice a9 K c9) m) (fun i _ => K - (intOf i).toNat)
        case atStart => exact ⟨0, Nat.zero_le _, rfl, _, _, Hf.out⟩
        case round =>
          clear Hf
          obtain ⟨m, hm, rfl, s2, Q2, hf⟩ := hrel
          by_cases hmK : m < K
          · obtain ⟨z9, rfl, g9⟩ := own_cell hf.own9 (ptrs_at X K m hmK)
            have k18 := hf.seqs.end_ hf.many hmK
            obtain ⟨xm, exm⟩ : ∃ xm, X m = xm := ⟨_, rfl⟩
            rw [exm] at g9 k18
            have HE := hidden_ hf
            clear hf exm
            go_wp2_with (first | (go_at_call 18; refine k18.mono ?_; rintro e W5 ⟨rfl, hs5, ho5⟩; have H5 := hidden_ (HE.out.step hmK hs5 ho5); clear hs5 ho5 k18))
            go_roundw
            case rel => exact ⟨m + 1, by omega, by go_num, _, _, H5.out⟩
            case measure => simp [intOf]; omega
          · have e : m = K := by omega
            subst e
            obtain ⟨f1, f2⟩ := hf.many.empty (fun i hi => hf.gone i hi hi)
            have k27 := hf.seqs.sizes hf.many
            have k28 := fun m' => (hf.seqs.drewN m').count hf.many
            rw [f1] at k27
            simp only [f2] at k28
            unfold tR at k28
            have HE := hidden_ hf.below
            clear hf f1 f2
            go_wp2_with (first
              | (go_at_call 27; refine k27.mono ?_; rintro e W5 ⟨rfl, m5, h5⟩; have q28 := k28 m5; rw [← h5] at q28; have H5 := hidden_ h5; clear h5 k27 k28)
              | (go_at_call 28; refine q28.mono ?_; rintro e W6 ⟨rfl, h6⟩; obtain rfl := h6.symm; clear q28))
            go_ret
            exact ⟨rfl, by rw [H5.out]; exact ⟨HE.out.os, HE.out.tape, HE.out.output, HE.out.size, HE.out.block⟩⟩

theorem contract (H : Type) (enc : TypeId × Value → H) (W : World) (base : Nat) (args : Array Value) (ds gs : List (DataW H)) (before : List MemPlace)
    (hval0 : ∀ (j : Nat) t v, Try.f4.params[j]? = some t → args[j]? = some v → Value.okWide Try.prog W .any base t v)
    (hW : DataW.Whole enc Try.prog Try.f4.params.toList Rows.kvForksSpec.vars false W args.toList ds gs before)
    (hsz0 : (DataW.weightsEach Try.prog (Try.f4.params.toList ++ Rows.kvForksSpec.plain.varTypes Try.prog) (ds ++ gs)).all (· ≤ reachBytes) = true) :
    Calls Try.prog 4 args W fun e W' => ∃ v, e = .returned v ∧ Rows.kvForksSpec.post enc Try.prog Try.f4 false true false false W args v W' := by
  have hval : ∀ (j : Nat) t v, Try.f4.params[j]? = some t → args[j]? = some v → Value.okWide Try.prog W .any base t v := hval0
  have hW' := hW
  obtain ⟨p, q, hA0, hV, rfl, hfz, hnd⟩ := hW
  have hA : DataW.TrodAll enc Try.prog W 0 (fun _ => true) true Try.f4.params.toList args.toList ds p := hA0
  have hsz : (DataW.weightsEach Try.prog (Try.f4.params.toList ++ Rows.kvForksSpec.plain.varTypes Try.prog) (ds ++ gs)).all (· ≤ reachBytes) = true := hsz0
  rw [Try.params4] at hA hval hsz
  obtain ⟨v0, vs0, d0, ds0, p0, q0, hargs, rfl, rfl, h0, r0⟩ := trodAll_cons hA
  obtain ⟨v1, vs1, d1, ds1, p1, q1, rfl, rfl, rfl, h1, r1⟩ := trodAll_cons r0
  obtain ⟨rfl, rfl, rfl⟩ := trodAll_nil r1
  obtain rfl : args = #[v0, v1] := by cases args; simp_all
  obtain ⟨rfl, rfl⟩ := trodVars_none hV
  obtain ⟨a0, rfl, rfl, rfl, w0⟩ := open_int Try.underlying3 (hval 0 3 v0 rfl rfl) h0
  obtain ⟨a1, n1, c1, rfl⟩ := okWide_slice Try.underlying22 (hval 1 22 v1 rfl rfl)
  have k1 := h1
  have lt1 : ∀ x ∈ p1, x.block < W.heap.size := by obtain ⟨m, hm⟩ := k1; exact DataW.trod_lt m _ _ _ hm
  obtain ⟨O1, w1, e1, l1, s1⟩ := open_ops h1
  have b1 : ∀ i, i < n1 → (O1 i).zw.length * 8 ≤ 140737488351232 := s1 fun q hq => of_decide_eq_true (List.all_eq_true.1 hsz q (DataW.weights_mem_each (j := 1) rfl rfl q hq))
  clear hA0 hval0
  refine (walk a0 a1 n1 c1 O1 W w0 w1 e1 l1 b1).mono fun e W' ⟨he, bel⟩ => ?_
  subst he
  exact ⟨_, rfl, _, _, _, [], _, [], hW', trodAll_mk1 (shut_bool Try.underlying4 _), (trodAll_cons_mk (shut_int Try.underlying3 w0) (trodAll_cons_mk (Below.trod laidOut (by kernel_rfl) (of_decide_eq_true (by kernel_rfl)) k1 bel lt1) trodAll_mk0)), rfl, bel.frame _, fun h => by cases h⟩

set_option maxRecDepth 100000 in
theorem lifted (os : Os) (started : os.Started) (H : Type) (enc : TypeId × Value → H) :
    ReturnsInHanded {} Try.checked os 4 .any (Rows.kvForksSpec.pre6 enc Try.prog Try.f4 Rows.kvForksRow.domain false) (Rows.kvForksSpec.post enc Try.prog Try.f4 false true false false) := by
  refine returnsInHanded_of_change_sized (C := Try.checked) own started (by kernel_rfl) Try.func4
    (ChangeSpec.witness6 (enc := enc) (C := Try.checked) false ⟨#[], #[.int .i64 0, .slice none 0 0], []⟩ 8 (by kernel_rfl) (by kernel_rfl) (by kernel_rfl) (by kernel_rfl)) ?_
  intro W base args ds gs before hval hW _ hsz _
  exact contract H enc W base args ds gs before hval hW hsz

theorem over : Rows.kvForksRow.holds Try.pinned (OpenSpec.ofChange Rows.kvForksSpec) :=
  OpenClaim.holds_of_wide 4 Try.f4 rfl rfl rfl rfl rfl rfl rfl ⟨rfl, rfl, rfl, rfl, rfl⟩ rfl rfl rfl rfl rfl (by kernel_rfl) Try.func4 (by kernel_rfl)
    (of_decide_eq_true (by kernel_rfl)) (by unfold Func.isWrapper; first | (rw [if_pos (by decide +kernel)]; kernel_rfl) | (rw [if_neg (by decide +kernel)]; exact ⟨rfl, rfl⟩))
    (fun os started H enc _ => lifted os started H enc)

theorem proved : Rows.KvForksSaid :=
  over
#print axioms proved
end Go.Proofs.Ytgjjeggopeppfaa.kvForks
