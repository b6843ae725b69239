/- KvPages, of layer 13: a sequence by itself has just as many pages as hold its rows, for every width, count of rows and of pages. -/
import Derived.Test.YtgjjeggopeppfaaRows
import Derived.Test.YtgjjeggopeppfaaPages
import Derived.Test.YtgjjeggopeppfaaView
import Derived.Test.YtgjjeggopeppfaaOwn
import Derived.Test.YtgjjeggopeppfaaLeast
import Derived.Test.YtgjjeggopeppfaaLays
import Derived.Test.YtgjjeggopeppfaaTurns
import Derived.Test.YtgjjeggopeppfaaGoods
import Derived.Test.YtgjjeggopeppfaaNews
import Derived.Test.YtgjjeggopeppfaaCount
import Derived.Test.YtgjjeggopeppfaaLies
import Derived.Test.YtgjjeggopeppfaaSeqs
import Derived.Test.YtgjjeggopeppfaaSeqAt
import Derived.Test.YtgjjeggopeppfaaSeqRd
import Derived.Test.YtgjjeggopeppfaaSeqNeed
import Derived.Test.YtgjjeggopeppfaaReadsP
import Derived.Test.YtgjjeggopeppfaaReadsQ
import Derived.Test.YtgjjeggopeppfaaRoom1
import Derived.Test.YtgjjeggopeppfaaRoom
import Derived.Test.YtgjjeggopeppfaaCopyLast
import Derived.Test.YtgjjeggopeppfaaAppend
import Derived.Test.YtgjjeggopeppfaaPagesOf
import Derived.Test.YtgjjeggopeppfaaForks
import Derived.Test.YtgjjeggopeppfaaKeep
import Derived.Test.YtgjjeggopeppfaaRows13
import Derived.Test.YtgjjeggopeppfaaManySq
import Derived.Test.YtgjjeggopeppfaaManyRoom
import Derived.Test.YtgjjeggopeppfaaManyActs
import Derived.Test.YtgjjeggopeppfaaSeqsIn
import Derived.Test.YtgjjeggopeppfaaSame64
import Derived.Test.YtgjjeggopeppfaaSolo
import Derived.Test.YtgjjeggopeppfaaWorks13
import Derived.Test.YtgjjeggopeppfaaRest
import Derived.Test.YtgjjeggopeppfaaInv
import Derived.Test.YtgjjeggopeppfaaRegPg
import Derived.Test.YtgjjeggopeppfaaRunOps
import Derived.WalkKit
import Derived.ProofKit
import Derived.OpenShut
import Derived.ChangeOld
import Derived.Below
import Derived.WalkLawsBesides
import Derived.ChangeMaps5
import Derived.Deep.QuietTactic
import Derived.BigQuiet
import Derived.OwnWalk
import Derived.Deep.RegionHeld3
import Derived.Deep.RegionWith
namespace Go.Proofs.Ytgjjeggopeppfaa.kvPages
open Go.ChangeShapes Go.WideShapes Go.ChangeAt Go.RowKit
set_option linter.unusedVariables false
set_option linter.unusedSimpArgs false

theorem own : ownKnob Try.prog.godebug = none := by kernel_rfl
theorem laidOut : laidOutB Try.prog = true := by kernel_rfl


set_option maxHeartbeats 4000000 in
set_option maxRecDepth 20000 in
theorem walk (a0 : Int) (a1 : Int) (a2 : Int) (w : World) (w0 : (Lit.int .i64 a0).wf = true) (w1 : (Lit.int .i64 a1).wf = true) (w2 : (Lit.int .i64 a2).wf = true) :
    Calls Try.prog 6 #[.int .i64 a0, .int .i64 a1, .int .i64 a2] w fun e w' => e = .returned (.bool true) ∧ Below w.heap.size w w' := by
  obtain ⟨M0, hM0, (e0 : (IntKind.u64.wrap a0).tmod 32 = (M0 : Int)), (e0' : IntKind.u64.wrap a0 % 32 = (M0 : Int))⟩ := restN a0 32 (by decide)
  obtain ⟨M1, hM1, (e1 : (IntKind.u64.wrap a1).tmod 60 = (M1 : Int)), (e1' : IntKind.u64.wrap a1 % 60 = (M1 : Int))⟩ := restN a1 60 (by decide)
  obtain ⟨M2, hM2, (e2 : (IntKind.u64.wrap a2).tmod 20 = (M2 : Int)), (e2' : IntKind.u64.wrap a2 % 20 = (M2 : Int))⟩ := restN a2 20 (by decide)
  obtain ⟨wd, ew⟩ : ∃ wd : Nat, 1 + M0 = wd := ⟨_, rfl⟩
  have ew' : (1 : Int) + (M0 : Int) = (wd : Int) := by omega
  have wd0 : 1 ≤ wd := by omega
  have wd1 : wd ≤ 32 := by omega
  clear ew
  obtain ⟨N, eN⟩ : ∃ N : Nat, 1 + M2 = N := ⟨_, rfl⟩
  have eN' : (1 : Int) + (M2 : Int) = (N : Int) := by omega
  have hN0 : 1 ≤ N := by omega
  have hN1 : N ≤ 20 := by omega
  clear eN
  have k22 := works_call w
  have k7 := fun (W : World) => new_call N (by omega) (by omega) W
  have k9 : Hid (∀ b W, Calls Try.prog 9 #[.pointer (some ⟨b, 0, none⟩), .string ⟨#[114]⟩, .int .i64 wd] W fun e w' => ∃ x, e = .returned (.tuple #[.pointer (some ⟨x, 0, none⟩), .int .i64 0]) ∧ W.heap.size ≤ x ∧ (∀ B, B ≤ W.heap.size → SeqAt B w' x b ⟨#[114]⟩ wd ⟨[], 0, 0⟩ none 0) ∧ Below W.heap.size W w') := fun b W => new_call13 b ⟨#[114]⟩ wd tR_ne wd0 wd1 W
  have k11 : Hid (∀ (z : Int), 0 ≤ z → z ≤ 1000 → ∀ W, Calls Try.prog 11 #[.int .i64 wd, .int .i64 z] W fun e w' => ∃ ra rc, e = .returned (.slice ra wd rc) ∧ RowJ W.heap.size w' ra wd rc (lawRow wd z) ∧ Below W.heap.size W w') := fun z h0 h1 W => lawRow_call wd z h0 h1 wd1 W
  obtain ⟨r, er, eq1, r0, r1, eq2⟩ := quo32 wd0 wd1
  have Her := hidden_ er
  clear er
  have z' : ¬ ((r : Int) = 0) := by omega
  have zw : ¬ ((wd : Int) = 0) := by omega
  have nr : N * r ≤ 20 * 32 := Nat.mul_le_mul hN1 r1
  obtain ⟨NR, eNR⟩ : ∃ NR, N * r = NR := ⟨_, rfl⟩
  rw [eNR] at nr
  have pNR : (N : Int) * (r : Int) = (NR : Int) := by rw [← Int.natCast_mul, eNR]
  have HNR := hidden_ eNR
  clear eNR
  go_enter Try.func6, Try.ntmps6
  go_wp2_with (first
    | (go_at_call 22; refine k22.mono ?_; rintro e W1 ⟨rfl, hb1⟩; have q7 := k7 W1; have H1 := hidden_ hb1; clear k22 k7 hb1)
    | (go_at_call 7; refine q7.mono ?_; rintro e W2 ⟨rfl, hp2, hb2⟩; have q9 := k9.out (W1.heap.size + 1) W2; have H2 := hidden_ (And.intro (hp2 w.heap.size H1.out.size) (below_then H1.out hb2)); clear q7 hp2 hb2)
    | (go_at_call 9; refine q9.mono ?_; rintro e W3 ⟨x, rfl, hx, hs3, hb3⟩; have H3 := hidden_ (And.intro (seqs_new (H2.out.1.below hb3) (hs3 w.heap.size H2.out.2.size)) (Off.of_below (B := w.heap.size) (T := TS) (below_then H2.out.2 hb3))); clear hs3 hb3 q9))
  obtain ⟨b, eb⟩ : ∃ b, W1.heap.size + 1 = b := ⟨_, rfl⟩
  obtain ⟨g, eg⟩ : ∃ g, W1.heap.size = g := ⟨_, rfl⟩
  rw [eb, eg] at H3
  rw [eb]
  clear H1 H2 eb eg hx e0 e0' e1 e1' e2 e2' ew' eN'
  go_loopw [12, 13] (fun v i wr => ∃ k n : Nat, k ≤ M1 ∧ n ≤ k ∧ i = .int .i64 k ∧ v = .int .i64 n ∧ ∃ s Q, SeqsIn w.heap.size wr b g tR wd s 1 Q (fun _ => x) ∧ Off w.heap.size TS w wr ∧ Solo N tR wd s Q ∧ (Q 0).n = n) (fun _ i _ => M1 - (intOf i).toNat)
  case atStart => exact ⟨0, 0, by omega, by omega, rfl, rfl, _, _, H3.out.1, H3.out.2, solo_new N tR wd hN0 (by omega) tR_ne wd0 wd1, rfl⟩
  case round =>
    clear H3
    obtain ⟨k, n, hk, hnk, rfl, rfl, s, Q, hs, ho, hS, hn⟩ := hrel
    by_cases hlt : k < M1
    · have kr := k11.out k (by omega) (by omega)
      have kn := hs.need hS.many (i := 0) (by decide)
      have hnv := hS.need.2
      rw [hn, Her.out] at hnv
      rw [hnv] at kn
      have hE := hS.appE (lawRow_len wd k)
      rw [hn, Her.out, HNR.out] at hE
      have ka : Hid (∀ W ra rc, Below wr.heap.size wr W → RowJ wr.heap.size W ra wd rc (lawRow wd k) → _) := fun W ra rc hb hr => (hs.below hb).append hS.many (i := 0) (by decide) (by omega) hr
      have hnn : n % r ≤ n := Nat.mod_le _ _
      have t1 := tmodN n r
      have y2 : (n : Int) % (r : Int) = ((n % r : Nat) : Int) := (Int.natCast_emod n r).symm
      by_cases hfull : n < NR
      · rw [if_pos hfull] at hE
        obtain ⟨S1, n1⟩ := hS.app (lawRow_len wd k) (lawRow_wf wd k (by omega) (by omega) wd1) (by omega) hE
        rw [hE] at ka
        obtain ⟨s1, es1⟩ : ∃ s1, appS wd tR s (Q 0) (lawRow wd k) = s1 := ⟨_, rfl⟩
        obtain ⟨Q1, eQ1⟩ : ∃ Q1, upd Q 0 (appQ wd tR s (Q 0) (lawRow wd k)) = Q1 := ⟨_, rfl⟩
        rw [es1, eQ1] at ka S1
        rw [eQ1, hn] at n1
        have hl1 := S1.len.1
        rw [n1, Her.out] at hl1
        have hc1 := S1.many.count
        have hf1 := S1.free
        have hcnt : cntTo s1.pg tR N = (Q1 0).P.length := by omega
        obtain ⟨L, eL⟩ : ∃ L, (n + 1 + r - 1) / r = L := ⟨_, rfl⟩
        rw [eL] at hl1
        have hq3 : ∀ w, (binOp .quo 3 (.int .i64 ((n : Int) + 1 + (r : Int) - 1)) (.int .i64 (r : Int))).run Try.prog w = .ok (.int .i64 (L : Nat)) w := fun w => by
          have := run_quo3 (n + 1 + r - 1) r r0 (by omega) w
          rw [eL, show ((n + 1 + r - 1 : Nat) : Int) = (n : Int) + 1 + (r : Int) - 1 by omega] at this
          exact this
        have ha3 := run_add3 ((n : Int) + 1) (r : Int) (by omega) (by omega)
        have hs3 := run_sub3 ((n : Int) + 1 + (r : Int)) 1 (by omega) (by omega)
        have kl : Hid (∀ W, SeqsIn w.heap.size W b g tR wd s1 1 Q1 (fun _ => x) → (Calls Try.prog 23 #[.pointer (some ⟨x, 0, none⟩)] W fun e w' => e = .returned (.int .i64 ((n : Int) + 1)) ∧ w' = W) ∧ (Calls Try.prog 30 #[.pointer (some ⟨x, 0, none⟩)] W fun e w' => ∃ ra rc, e = .returned (.slice ra L rc) ∧ Below W.heap.size W w') ∧ (Calls Try.prog 28 #[.pointer (some ⟨b, 0, none⟩), .string ⟨#[114]⟩] W fun e w' => e = .returned (.int .i64 L) ∧ w' = W)) := fun W h => by
          refine ⟨?_, ?_, ?_⟩
          · have := h.len (i := 0) (by decide)
            rw [n1] at this
            exact this
          · refine (h.pages S1.many (i := 0) (by decide)).mono ?_
            rintro e w' ⟨ra, rc, rfl, _, hb⟩
            rw [hl1]
            exact ⟨ra, rc, rfl, hb⟩
          · have := h.count S1.many
            rw [hcnt, hl1] at this
            exact this
        have hfull' : (n : Int) < (NR : Int) := by omega
        have HO := hidden_ (And.intro ho (And.intro S1 n1))
        have HS := hidden_ hs
        clear hs ho hS hn hE S1 hl1 hc1 hf1 hcnt n1 eL hnv
        by_cases hz : n % r = 0
        · rw [if_pos hz] at kn
          rw [hz] at t1 y2
          clear hz
          go_wp2_with (first
            | (go_at_call 29; refine kn.mono ?_; rintro e W2 ⟨rfl, m2, h2⟩; have kk := kr W2; have hb2 : Below wr.heap.size wr W2 := (by rw [h2]; exact ⟨rfl, rfl, rfl, Nat.le_refl _, fun _ _ => rfl⟩); have H2 := hidden_ hb2; clear kn kr h2 hb2)
            | (go_at_call 11; refine kk.mono ?_; rintro e W3 ⟨ra, rc, rfl, hr3, hb3⟩; have kq := ka.out W3 ra rc (below_then H2.out hb3) (hr3.mono H2.out.size); have H3 := hidden_ (below_then H2.out hb3); clear hr3 hb3 kk)
            | (go_at_call 12; refine kq.mono ?_; rintro e W4 ⟨rfl, hs4, ho4⟩; have H4 := hidden_ (And.intro hs4 ((HO.out.1.trans (Off.of_below H3.out)).trans ho4)); clear hs4 ho4 kq))
          refine pgs_region x b L ((n : Int) + 1) (r : Int) ((n : Int) + 1 + (r : Int)) ((n : Int) + 1 + (r : Int) - 1) (fun W => SeqsIn w.heap.size W b g tR wd s1 1 Q1 (fun _ => x) ∧ Off w.heap.size TS w W) (by kernel_rfl) rfl ⟨_, rfl, rfl, rfl, rfl, by kernel_rfl⟩ ⟨_, rfl, rfl, rfl, rfl, by kernel_rfl⟩ ⟨_, rfl, rfl, rfl, rfl, by kernel_rfl⟩ ⟨_, rfl, rfl, rfl, rfl, by kernel_rfl⟩ ⟨_, rfl, rfl, rfl, rfl, by kernel_rfl⟩ ⟨_, rfl, rfl, rfl, rfl, by kernel_rfl⟩ ⟨_, rfl, rfl, rfl, rfl, by kernel_rfl⟩ ⟨_, rfl, rfl, rfl, rfl, by kernel_rfl⟩ ⟨_, rfl, rfl, rfl, rfl, by kernel_rfl⟩ ⟨_, rfl, rfl, rfl, rfl, by kernel_rfl⟩ ⟨_, rfl, rfl, rfl, rfl, by kernel_rfl⟩ ⟨_, rfl, rfl, rfl, rfl, by kernel_rfl⟩ ⟨_, rfl, rfl, rfl, rfl, by kernel_rfl⟩ ⟨_, rfl, rfl, rfl, rfl, by kernel_rfl⟩ ⟨_, rfl, rfl, rfl, rfl, by kernel_rfl⟩ ⟨_, rfl, rfl, rfl, rfl, by kernel_rfl⟩ ⟨_, rfl, rfl, rfl, rfl, by kernel_rfl⟩ ⟨_, rfl, rfl, rfl, rfl, by kernel_rfl⟩ ⟨_, rfl, rfl, rfl, rfl, by kernel_rfl⟩ ⟨_, rfl, rfl, rfl, rfl, by kernel_rfl⟩ ⟨_, rfl, rfl, rfl, rfl, by kernel_rfl⟩ ⟨_, rfl, rfl, rfl, rfl, by kernel_rfl⟩ ⟨_, rfl, rfl, rfl, rfl, by kernel_rfl⟩ ⟨_, rfl, rfl, rfl, rfl, by kernel_rfl⟩ ⟨_, rfl, rfl, rfl, rfl, by kernel_rfl⟩ ⟨_, rfl, rfl, rfl, rfl, by kernel_rfl⟩ ⟨_, rfl, rfl, rfl, rfl, by kernel_rfl⟩ ⟨H4.out.1.drewN 1, H4.out.2.drewN 1⟩ (fun W h => (kl.out W h.1).1) (run_neq3_same _) (fun W h => ((kl.out W h.1).2.1).mono (fun e w' ⟨pa, pc, h1, h2⟩ => ⟨pa, pc, h1, h2, h.1.below h2, h.2.trans (Off.of_below h2)⟩)) ha3 hs3 hq3 (run_neq3_same _) (fun W h => (kl.out W h.1).2.2) ha3 hs3 hq3 (run_neq3_same _) rfl rfl rfl rfl (Nat.le_of_ble_eq_true rfl) ?_
          intro a W9 hs hd hkp hS9 hval
          have e115 : a.tmps.getD 115 undef = .bool false := hval 26 115 (by decide) rfl
          have ep := frame_puts [89, 90, 91, 92, 93, 94, 95, 96, 97, 98, 99, 100, 101, 102, 103, 104, 105, 106, 107, 108, 109, 110, 111, 112, 113, 114, 115] hs hd (fun s h => hkp s (fun i hi e => h (by
            rcases (show i = 0 ∨ i = 1 ∨ i = 2 ∨ i = 3 ∨ i = 4 ∨ i = 5 ∨ i = 6 ∨ i = 7 ∨ i = 8 ∨ i = 9 ∨ i = 10 ∨ i = 11 ∨ i = 12 ∨ i = 13 ∨ i = 14 ∨ i = 15 ∨ i = 16 ∨ i = 17 ∨ i = 18 ∨ i = 19 ∨ i = 20 ∨ i = 21 ∨ i = 22 ∨ i = 23 ∨ i = 24 ∨ i = 25 ∨ i = 26 by omega) with rfl | rfl | rfl | rfl | rfl | rfl | rfl | rfl | rfl | rfl | rfl | rfl | rfl | rfl | rfl | rfl | rfl | rfl | rfl | rfl | rfl | rfl | rfl | rfl | rfl | rfl | rfl <;> (simp only [pgsD, Option.some.injEq] at e; subst e; simp))))
          simp only [List.foldl] at ep
          rw [e115] at ep
          have H9 := hidden_ hS9
          clear hs hd hkp hval hS9 e115
          generalize a.tmps.getD 89 undef = g89 at ep
          generalize a.tmps.getD 90 undef = g90 at ep
          generalize a.tmps.getD 91 undef = g91 at ep
          generalize a.tmps.getD 92 undef = g92 at ep
          generalize a.tmps.getD 93 undef = g93 at ep
          generalize a.tmps.getD 94 undef = g94 at ep
          generalize a.tmps.getD 95 undef = g95 at ep
          generalize a.tmps.getD 96 undef = g96 at ep
          generalize a.tmps.getD 97 undef = g97 at ep
          generalize a.tmps.getD 98 undef = g98 at ep
          generalize a.tmps.getD 99 undef = g99 at ep
          generalize a.tmps.getD 100 undef = g100 at ep
          generalize a.tmps.getD 101 undef = g101 at ep
          generalize a.tmps.getD 102 undef = g102 at ep
          generalize a.tmps.getD 103 undef = g103 at ep
          generalize a.tmps.getD 104 undef = g104 at ep
          generalize a.tmps.getD 105 undef = g105 at ep
          generalize a.tmps.getD 106 undef = g106 at ep
          generalize a.tmps.getD 107 undef = g107 at ep
          generalize a.tmps.getD 108 undef = g108 at ep
          generalize a.tmps.getD 109 undef = g109 at ep
          generalize a.tmps.getD 110 undef = g110 at ep
          generalize a.tmps.getD 111 undef = g111 at ep
          generalize a.tmps.getD 112 undef = g112 at ep
          generalize a.tmps.getD 113 undef = g113 at ep
          generalize a.tmps.getD 114 undef = g114 at ep
          simp only [Act.put, List.setIfInBounds_toArray, List.set_cons_succ, List.set_cons_zero] at ep
          subst ep
          go_wp2
          go_roundw
          case rel => exact ⟨k + 1, n + 1, by omega, by omega, by go_num, by go_num, s1, Q1, H9.out.1, H9.out.2, HO.out.2.1, HO.out.2.2⟩
          case measure => simp [intOf]; omega
        · rw [if_neg hz] at kn
          obtain ⟨Y, eY⟩ : ∃ Y, n % r = Y := ⟨_, rfl⟩
          rw [eY] at t1 y2 hz hnn
          have hz' : ((Y : Int) == 0) = false := by simp; omega
          have hz'' : ¬ ((Y : Int) = 0) := by omega
          have x4 := wrap_nat (n := Y) (by omega)
          clear eY
          go_wp2_with (first
            | (go_at_call 29; refine kn.mono ?_; rintro e W2 ⟨rfl, m2, h2⟩; have kk := kr W2; have hb2 : Below wr.heap.size wr W2 := (by rw [h2]; exact ⟨rfl, rfl, rfl, Nat.le_refl _, fun _ _ => rfl⟩); have H2 := hidden_ hb2; clear kn kr h2 hb2)
            | (go_at_call 11; refine kk.mono ?_; rintro e W3 ⟨ra, rc, rfl, hr3, hb3⟩; have kq := ka.out W3 ra rc (below_then H2.out hb3) (hr3.mono H2.out.size); have H3 := hidden_ (below_then H2.out hb3); clear hr3 hb3 kk)
            | (go_at_call 12; refine kq.mono ?_; rintro e W4 ⟨rfl, hs4, ho4⟩; have H4 := hidden_ (And.intro hs4 ((HO.out.1.trans (Off.of_below H3.out)).trans ho4)); clear hs4 ho4 kq))
          refine pgs_region x b L ((n : Int) + 1) (r : Int) ((n : Int) + 1 + (r : Int)) ((n : Int) + 1 + (r : Int) - 1) (fun W => SeqsIn w.heap.size W b g tR wd s1 1 Q1 (fun _ => x) ∧ Off w.heap.size TS w W) (by kernel_rfl) rfl ⟨_, rfl, rfl, rfl, rfl, by kernel_rfl⟩ ⟨_, rfl, rfl, rfl, rfl, by kernel_rfl⟩ ⟨_, rfl, rfl, rfl, rfl, by kernel_rfl⟩ ⟨_, rfl, rfl, rfl, rfl, by kernel_rfl⟩ ⟨_, rfl, rfl, rfl, rfl, by kernel_rfl⟩ ⟨_, rfl, rfl, rfl, rfl, by kernel_rfl⟩ ⟨_, rfl, rfl, rfl, rfl, by kernel_rfl⟩ ⟨_, rfl, rfl, rfl, rfl, by kernel_rfl⟩ ⟨_, rfl, rfl, rfl, rfl, by kernel_rfl⟩ ⟨_, rfl, rfl, rfl, rfl, by kernel_rfl⟩ ⟨_, rfl, rfl, rfl, rfl, by kernel_rfl⟩ ⟨_, rfl, rfl, rfl, rfl, by kernel_rfl⟩ ⟨_, rfl, rfl, rfl, rfl, by kernel_rfl⟩ ⟨_, rfl, rfl, rfl, rfl, by kernel_rfl⟩ ⟨_, rfl, rfl, rfl, rfl, by kernel_rfl⟩ ⟨_, rfl, rfl, rfl, rfl, by kernel_rfl⟩ ⟨_, rfl, rfl, rfl, rfl, by kernel_rfl⟩ ⟨_, rfl, rfl, rfl, rfl, by kernel_rfl⟩ ⟨_, rfl, rfl, rfl, rfl, by kernel_rfl⟩ ⟨_, rfl, rfl, rfl, rfl, by kernel_rfl⟩ ⟨_, rfl, rfl, rfl, rfl, by kernel_rfl⟩ ⟨_, rfl, rfl, rfl, rfl, by kernel_rfl⟩ ⟨_, rfl, rfl, rfl, rfl, by kernel_rfl⟩ ⟨_, rfl, rfl, rfl, rfl, by kernel_rfl⟩ ⟨_, rfl, rfl, rfl, rfl, by kernel_rfl⟩ ⟨_, rfl, rfl, rfl, rfl, by kernel_rfl⟩ ⟨_, rfl, rfl, rfl, rfl, by kernel_rfl⟩ ⟨H4.out.1.drewN 1, H4.out.2.drewN 1⟩ (fun W h => (kl.out W h.1).1) (run_neq3_same _) (fun W h => ((kl.out W h.1).2.1).mono (fun e w' ⟨pa, pc, h1, h2⟩ => ⟨pa, pc, h1, h2, h.1.below h2, h.2.trans (Off.of_below h2)⟩)) ha3 hs3 hq3 (run_neq3_same _) (fun W h => (kl.out W h.1).2.2) ha3 hs3 hq3 (run_neq3_same _) rfl rfl rfl rfl (Nat.le_of_ble_eq_true rfl) ?_
          intro a W9 hs hd hkp hS9 hval
          have e115 : a.tmps.getD 115 undef = .bool false := hval 26 115 (by decide) rfl
          have ep := frame_puts [89, 90, 91, 92, 93, 94, 95, 96, 97, 98, 99, 100, 101, 102, 103, 104, 105, 106, 107, 108, 109, 110, 111, 112, 113, 114, 115] hs hd (fun s h => hkp s (fun i hi e => h (by
            rcases (show i = 0 ∨ i = 1 ∨ i = 2 ∨ i = 3 ∨ i = 4 ∨ i = 5 ∨ i = 6 ∨ i = 7 ∨ i = 8 ∨ i = 9 ∨ i = 10 ∨ i = 11 ∨ i = 12 ∨ i = 13 ∨ i = 14 ∨ i = 15 ∨ i = 16 ∨ i = 17 ∨ i = 18 ∨ i = 19 ∨ i = 20 ∨ i = 21 ∨ i = 22 ∨ i = 23 ∨ i = 24 ∨ i = 25 ∨ i = 26 by omega) with rfl | rfl | rfl | rfl | rfl | rfl | rfl | rfl | rfl | rfl | rfl | rfl | rfl | rfl | rfl | rfl | rfl | rfl | rfl | rfl | rfl | rfl | rfl | rfl | rfl | rfl | rfl <;> (simp only [pgsD, Option.some.injEq] at e; subst e; simp))))
          simp only [List.foldl] at ep
          rw [e115] at ep
          have H9 := hidden_ hS9
          clear hs hd hkp hval hS9 e115
          generalize a.tmps.getD 89 undef = g89 at ep
          generalize a.tmps.getD 90 undef = g90 at ep
          generalize a.tmps.getD 91 undef = g91 at ep
          generalize a.tmps.getD 92 undef = g92 at ep
          generalize a.tmps.getD 93 undef = g93 at ep
          generalize a.tmps.getD 94 undef = g94 at ep
          generalize a.tmps.getD 95 undef = g95 at ep
          generalize a.tmps.getD 96 undef = g96 at ep
          generalize a.tmps.getD 97 undef = g97 at ep
          generalize a.tmps.getD 98 undef = g98 at ep
          generalize a.tmps.getD 99 undef = g99 at ep
          generalize a.tmps.getD 100 undef = g100 at ep
          generalize a.tmps.getD 101 undef = g101 at ep
          generalize a.tmps.getD 102 undef = g102 at ep
          generalize a.tmps.getD 103 undef = g103 at ep
          generalize a.tmps.getD 104 undef = g104 at ep
          generalize a.tmps.getD 105 undef = g105 at ep
          generalize a.tmps.getD 106 undef = g106 at ep
          generalize a.tmps.getD 107 undef = g107 at ep
          generalize a.tmps.getD 108 undef = g108 at ep
          generalize a.tmps.getD 109 undef = g109 at ep
          generalize a.tmps.getD 110 undef = g110 at ep
          generalize a.tmps.getD 111 undef = g111 at ep
          generalize a.tmps.getD 112 undef = g112 at ep
          generalize a.tmps.getD 113 undef = g113 at ep
          generalize a.tmps.getD 114 undef = g114 at ep
          simp only [Act.put, List.setIfInBounds_toArray, List.set_cons_succ, List.set_cons_zero] at ep
          subst ep
          go_wp2
          go_roundw
          case rel => exact ⟨k + 1, n + 1, by omega, by omega, by go_num, by go_num, s1, Q1, H9.out.1, H9.out.2, HO.out.2.1, HO.out.2.2⟩
          case measure => simp [intOf]; omega
      · rw [if_neg hfull] at hE
        obtain ⟨es1, eQ1⟩ := hS.many.app_no (i := 0) (lawRow wd k) (by rw [hE]; decide)
        rw [hE, es1, eQ1] at ka
        have S1 := hS
        have n1 := hn
        obtain ⟨s1, es1⟩ : ∃ s1, s = s1 := ⟨_, rfl⟩
        obtain ⟨Q1, eQ1⟩ : ∃ Q1, Q = Q1 := ⟨_, rfl⟩
        rw [es1, eQ1] at ka S1
        rw [eQ1] at n1
        have hl1 := S1.len.1
        rw [n1, Her.out] at hl1
        have hc1 := S1.many.count
        have hf1 := S1.free
        have hcnt : cntTo s1.pg tR N = (Q1 0).P.length := by omega
        obtain ⟨L, eL⟩ : ∃ L, (n + r - 1) / r = L := ⟨_, rfl⟩
        rw [eL] at hl1
        have hq3 : ∀ w, (binOp .quo 3 (.int .i64 ((n : Int) + (r : Int) - 1)) (.int .i64 (r : Int))).run Try.prog w = .ok (.int .i64 (L : Nat)) w := fun w => by
          have := run_quo3 (n + r - 1) r r0 (by omega) w
          rw [eL, show ((n + r - 1 : Nat) : Int) = (n : Int) + (r : Int) - 1 by omega] at this
          exact this
        have ha3 := run_add3 ((n : Int)) (r : Int) (by omega) (by omega)
        have hs3 := run_sub3 ((n : Int) + (r : Int)) 1 (by omega) (by omega)
        have kl : Hid (∀ W, SeqsIn w.heap.size W b g tR wd s1 1 Q1 (fun _ => x) → (Calls Try.prog 23 #[.pointer (some ⟨x, 0, none⟩)] W fun e w' => e = .returned (.int .i64 ((n : Int))) ∧ w' = W) ∧ (Calls Try.prog 30 #[.pointer (some ⟨x, 0, none⟩)] W fun e w' => ∃ ra rc, e = .returned (.slice ra L rc) ∧ Below W.heap.size W w') ∧ (Calls Try.prog 28 #[.pointer (some ⟨b, 0, none⟩), .string ⟨#[114]⟩] W fun e w' => e = .returned (.int .i64 L) ∧ w' = W)) := fun W h => by
          refine ⟨?_, ?_, ?_⟩
          · have := h.len (i := 0) (by decide)
            rw [n1] at this
            exact this
          · refine (h.pages S1.many (i := 0) (by decide)).mono ?_
            rintro e w' ⟨ra, rc, rfl, _, hb⟩
            rw [hl1]
            exact ⟨ra, rc, rfl, hb⟩
          · have := h.count S1.many
            rw [hcnt, hl1] at this
            exact this
        have hfull' : ¬ (n : Int) < (NR : Int) := by omega
        have hfull'' : (NR : Int) ≤ (n : Int) := by omega
        have HO := hidden_ (And.intro ho (And.intro S1 n1))
        have HS := hidden_ hs
        clear hs ho hS hn hE S1 hl1 hc1 hf1 hcnt n1 eL hnv
        by_cases hz : n % r = 0
        · rw [if_pos hz] at kn
          rw [hz] at t1 y2
          clear hz
          go_wp2_with (first
            | (go_at_call 29; refine kn.mono ?_; rintro e W2 ⟨rfl, m2, h2⟩; have kk := kr W2; have hb2 : Below wr.heap.size wr W2 := (by rw [h2]; exact ⟨rfl, rfl, rfl, Nat.le_refl _, fun _ _ => rfl⟩); have H2 := hidden_ hb2; clear kn kr h2 hb2)
            | (go_at_call 11; refine kk.mono ?_; rintro e W3 ⟨ra, rc, rfl, hr3, hb3⟩; have kq := ka.out W3 ra rc (below_then H2.out hb3) (hr3.mono H2.out.size); have H3 := hidden_ (below_then H2.out hb3); clear hr3 hb3 kk)
            | (go_at_call 12; refine kq.mono ?_; rintro e W4 ⟨rfl, hs4, ho4⟩; have H4 := hidden_ (And.intro hs4 ((HO.out.1.trans (Off.of_below H3.out)).trans ho4)); clear hs4 ho4 kq))
          refine pgs_region x b L ((n : Int)) (r : Int) ((n : Int) + (r : Int)) ((n : Int) + (r : Int) - 1) (fun W => SeqsIn w.heap.size W b g tR wd s1 1 Q1 (fun _ => x) ∧ Off w.heap.size TS w W) (by kernel_rfl) rfl ⟨_, rfl, rfl, rfl, rfl, by kernel_rfl⟩ ⟨_, rfl, rfl, rfl, rfl, by kernel_rfl⟩ ⟨_, rfl, rfl, rfl, rfl, by kernel_rfl⟩ ⟨_, rfl, rfl, rfl, rfl, by kernel_rfl⟩ ⟨_, rfl, rfl, rfl, rfl, by kernel_rfl⟩ ⟨_, rfl, rfl, rfl, rfl, by kernel_rfl⟩ ⟨_, rfl, rfl, rfl, rfl, by kernel_rfl⟩ ⟨_, rfl, rfl, rfl, rfl, by kernel_rfl⟩ ⟨_, rfl, rfl, rfl, rfl, by kernel_rfl⟩ ⟨_, rfl, rfl, rfl, rfl, by kernel_rfl⟩ ⟨_, rfl, rfl, rfl, rfl, by kernel_rfl⟩ ⟨_, rfl, rfl, rfl, rfl, by kernel_rfl⟩ ⟨_, rfl, rfl, rfl, rfl, by kernel_rfl⟩ ⟨_, rfl, rfl, rfl, rfl, by kernel_rfl⟩ ⟨_, rfl, rfl, rfl, rfl, by kernel_rfl⟩ ⟨_, rfl, rfl, rfl, rfl, by kernel_rfl⟩ ⟨_, rfl, rfl, rfl, rfl, by kernel_rfl⟩ ⟨_, rfl, rfl, rfl, rfl, by kernel_rfl⟩ ⟨_, rfl, rfl, rfl, rfl, by kernel_rfl⟩ ⟨_, rfl, rfl, rfl, rfl, by kernel_rfl⟩ ⟨_, rfl, rfl, rfl, rfl, by kernel_rfl⟩ ⟨_, rfl, rfl, rfl, rfl, by kernel_rfl⟩ ⟨_, rfl, rfl, rfl, rfl, by kernel_rfl⟩ ⟨_, rfl, rfl, rfl, rfl, by kernel_rfl⟩ ⟨_, rfl, rfl, rfl, rfl, by kernel_rfl⟩ ⟨_, rfl, rfl, rfl, rfl, by kernel_rfl⟩ ⟨_, rfl, rfl, rfl, rfl, by kernel_rfl⟩ ⟨H4.out.1.drewN 1, H4.out.2.drewN 1⟩ (fun W h => (kl.out W h.1).1) (run_neq3_same _) (fun W h => ((kl.out W h.1).2.1).mono (fun e w' ⟨pa, pc, h1, h2⟩ => ⟨pa, pc, h1, h2, h.1.below h2, h.2.trans (Off.of_below h2)⟩)) ha3 hs3 hq3 (run_neq3_same _) (fun W h => (kl.out W h.1).2.2) ha3 hs3 hq3 (run_neq3_same _) rfl rfl rfl rfl (Nat.le_of_ble_eq_true rfl) ?_
          intro a W9 hs hd hkp hS9 hval
          have e115 : a.tmps.getD 115 undef = .bool false := hval 26 115 (by decide) rfl
          have ep := frame_puts [89, 90, 91, 92, 93, 94, 95, 96, 97, 98, 99, 100, 101, 102, 103, 104, 105, 106, 107, 108, 109, 110, 111, 112, 113, 114, 115] hs hd (fun s h => hkp s (fun i hi e => h (by
            rcases (show i = 0 ∨ i = 1 ∨ i = 2 ∨ i = 3 ∨ i = 4 ∨ i = 5 ∨ i = 6 ∨ i = 7 ∨ i = 8 ∨ i = 9 ∨ i = 10 ∨ i = 11 ∨ i = 12 ∨ i = 13 ∨ i = 14 ∨ i = 15 ∨ i = 16 ∨ i = 17 ∨ i = 18 ∨ i = 19 ∨ i = 20 ∨ i = 21 ∨ i = 22 ∨ i = 23 ∨ i = 24 ∨ i = 25 ∨ i = 26 by omega) with rfl | rfl | rfl | rfl | rfl | rfl | rfl | rfl | rfl | rfl | rfl | rfl | rfl | rfl | rfl | rfl | rfl | rfl | rfl | rfl | rfl | rfl | rfl | rfl | rfl | rfl | rfl <;> (simp only [pgsD, Option.some.injEq] at e; subst e; simp))))
          simp only [List.foldl] at ep
          rw [e115] at ep
          have H9 := hidden_ hS9
          clear hs hd hkp hval hS9 e115
          generalize a.tmps.getD 89 undef = g89 at ep
          generalize a.tmps.getD 90 undef = g90 at ep
          generalize a.tmps.getD 91 undef = g91 at ep
          generalize a.tmps.getD 92 undef = g92 at ep
          generalize a.tmps.getD 93 undef = g93 at ep
          generalize a.tmps.getD 94 undef = g94 at ep
          generalize a.tmps.getD 95 undef = g95 at ep
          generalize a.tmps.getD 96 undef = g96 at ep
          generalize a.tmps.getD 97 undef = g97 at ep
          generalize a.tmps.getD 98 undef = g98 at ep
          generalize a.tmps.getD 99 undef = g99 at ep
          generalize a.tmps.getD 100 undef = g100 at ep
          generalize a.tmps.getD 101 undef = g101 at ep
          generalize a.tmps.getD 102 undef = g102 at ep
          generalize a.tmps.getD 103 undef = g103 at ep
          generalize a.tmps.getD 104 undef = g104 at ep
          generalize a.tmps.getD 105 undef = g105 at ep
          generalize a.tmps.getD 106 undef = g106 at ep
          generalize a.tmps.getD 107 undef = g107 at ep
          generalize a.tmps.getD 108 undef = g108 at ep
          generalize a.tmps.getD 109 undef = g109 at ep
          generalize a.tmps.getD 110 undef = g110 at ep
          generalize a.tmps.getD 111 undef = g111 at ep
          generalize a.tmps.getD 112 undef = g112 at ep
          generalize a.tmps.getD 113 undef = g113 at ep
          generalize a.tmps.getD 114 undef = g114 at ep
          simp only [Act.put, List.setIfInBounds_toArray, List.set_cons_succ, List.set_cons_zero] at ep
          subst ep
          go_wp2
          go_roundw
          case rel => exact ⟨k + 1, n, by omega, by omega, by go_num, by go_num, s1, Q1, H9.out.1, H9.out.2, HO.out.2.1, HO.out.2.2⟩
          case measure => simp [intOf]; omega
        · rw [if_neg hz] at kn
          obtain ⟨Y, eY⟩ : ∃ Y, n % r = Y := ⟨_, rfl⟩
          rw [eY] at t1 y2 hz hnn
          have hz' : ((Y : Int) == 0) = false := by simp; omega
          have hz'' : ¬ ((Y : Int) = 0) := by omega
          have x4 := wrap_nat (n := Y) (by omega)
          clear eY
          go_wp2_with (first
            | (go_at_call 29; refine kn.mono ?_; rintro e W2 ⟨rfl, m2, h2⟩; have kk := kr W2; have hb2 : Below wr.heap.size wr W2 := (by rw [h2]; exact ⟨rfl, rfl, rfl, Nat.le_refl _, fun _ _ => rfl⟩); have H2 := hidden_ hb2; clear kn kr h2 hb2)
            | (go_at_call 11; refine kk.mono ?_; rintro e W3 ⟨ra, rc, rfl, hr3, hb3⟩; have kq := ka.out W3 ra rc (below_then H2.out hb3) (hr3.mono H2.out.size); have H3 := hidden_ (below_then H2.out hb3); clear hr3 hb3 kk)
            | (go_at_call 12; refine kq.mono ?_; rintro e W4 ⟨rfl, hs4, ho4⟩; have H4 := hidden_ (And.intro hs4 ((HO.out.1.trans (Off.of_below H3.out)).trans ho4)); clear hs4 ho4 kq))
          refine pgs_region x b L ((n : Int)) (r : Int) ((n : Int) + (r : Int)) ((n : Int) + (r : Int) - 1) (fun W => SeqsIn w.heap.size W b g tR wd s1 1 Q1 (fun _ => x) ∧ Off w.heap.size TS w W) (by kernel_rfl) rfl ⟨_, rfl, rfl, rfl, rfl, by kernel_rfl⟩ ⟨_, rfl, rfl, rfl, rfl, by kernel_rfl⟩ ⟨_, rfl, rfl, rfl, rfl, by kernel_rfl⟩ ⟨_, rfl, rfl, rfl, rfl, by kernel_rfl⟩ ⟨_, rfl, rfl, rfl, rfl, by kernel_rfl⟩ ⟨_, rfl, rfl, rfl, rfl, by kernel_rfl⟩ ⟨_, rfl, rfl, rfl, rfl, by kernel_rfl⟩ ⟨_, rfl, rfl, rfl, rfl, by kernel_rfl⟩ ⟨_, rfl, rfl, rfl, rfl, by kernel_rfl⟩ ⟨_, rfl, rfl, rfl, rfl, by kernel_rfl⟩ ⟨_, rfl, rfl, rfl, rfl, by kernel_rfl⟩ ⟨_, rfl, rfl, rfl, rfl, by kernel_rfl⟩ ⟨_, rfl, rfl, rfl, rfl, by kernel_rfl⟩ ⟨_, rfl, rfl, rfl, rfl, by kernel_rfl⟩ ⟨_, rfl, rfl, rfl, rfl, by kernel_rfl⟩ ⟨_, rfl, rfl, rfl, rfl, by kernel_rfl⟩ ⟨_, rfl, rfl, rfl, rfl, by kernel_rfl⟩ ⟨_, rfl, rfl, rfl, rfl, by kernel_rfl⟩ ⟨_, rfl, rfl, rfl, rfl, by kernel_rfl⟩ ⟨_, rfl, rfl, rfl, rfl, by kernel_rfl⟩ ⟨_, rfl, rfl, rfl, rfl, by kernel_rfl⟩ ⟨_, rfl, rfl, rfl, rfl, by kernel_rfl⟩ ⟨_, rfl, rfl, rfl, rfl, by kernel_rfl⟩ ⟨_, rfl, rfl, rfl, rfl, by kernel_rfl⟩ ⟨_, rfl, rfl, rfl, rfl, by kernel_rfl⟩ ⟨_, rfl, rfl, rfl, rfl, by kernel_rfl⟩ ⟨_, rfl, rfl, rfl, rfl, by kernel_rfl⟩ ⟨H4.out.1.drewN 1, H4.out.2.drewN 1⟩ (fun W h => (kl.out W h.1).1) (run_neq3_same _) (fun W h => ((kl.out W h.1).2.1).mono (fun e w' ⟨pa, pc, h1, h2⟩ => ⟨pa, pc, h1, h2, h.1.below h2, h.2.trans (Off.of_below h2)⟩)) ha3 hs3 hq3 (run_neq3_same _) (fun W h => (kl.out W h.1).2.2) ha3 hs3 hq3 (run_neq3_same _) rfl rfl rfl rfl (Nat.le_of_ble_eq_true rfl) ?_
          intro a W9 hs hd hkp hS9 hval
          have e115 : a.tmps.getD 115 undef = .bool false := hval 26 115 (by decide) rfl
          have ep := frame_puts [89, 90, 91, 92, 93, 94, 95, 96, 97, 98, 99, 100, 101, 102, 103, 104, 105, 106, 107, 108, 109, 110, 111, 112, 113, 114, 115] hs hd (fun s h => hkp s (fun i hi e => h (by
            rcases (show i = 0 ∨ i = 1 ∨ i = 2 ∨ i = 3 ∨ i = 4 ∨ i = 5 ∨ i = 6 ∨ i = 7 ∨ i = 8 ∨ i = 9 ∨ i = 10 ∨ i = 11 ∨ i = 12 ∨ i = 13 ∨ i = 14 ∨ i = 15 ∨ i = 16 ∨ i = 17 ∨ i = 18 ∨ i = 19 ∨ i = 20 ∨ i = 21 ∨ i = 22 ∨ i = 23 ∨ i = 24 ∨ i = 25 ∨ i = 26 by omega) with rfl | rfl | rfl | rfl | rfl | rfl | rfl | rfl | rfl | rfl | rfl | rfl | rfl | rfl | rfl | rfl | rfl | rfl | rfl | rfl | rfl | rfl | rfl | rfl | rfl | rfl | rfl <;> (simp only [pgsD, Option.some.injEq] at e; subst e; simp))))
          simp only [List.foldl] at ep
          rw [e115] at ep
          have H9 := hidden_ hS9
          clear hs hd hkp hval hS9 e115
          generalize a.tmps.getD 89 undef = g89 at ep
          generalize a.tmps.getD 90 undef = g90 at ep
          generalize a.tmps.getD 91 undef = g91 at ep
          generalize a.tmps.getD 92 undef = g92 at ep
          generalize a.tmps.getD 93 undef = g93 at ep
          generalize a.tmps.getD 94 undef = g94 at ep
          generalize a.tmps.getD 95 undef = g95 at ep
          generalize a.tmps.getD 96 undef = g96 at ep
          generalize a.tmps.getD 97 undef = g97 at ep
          generalize a.tmps.getD 98 undef = g98 at ep
          generalize a.tmps.getD 99 undef = g99 at ep
          generalize a.tmps.getD 100 undef = g100 at ep
          generalize a.tmps.getD 101 undef = g101 at ep
          generalize a.tmps.getD 102 undef = g102 at ep
          generalize a.tmps.getD 103 undef = g103 at ep
          generalize a.tmps.getD 104 undef = g104 at ep
          generalize a.tmps.getD 105 undef = g105 at ep
          generalize a.tmps.getD 106 undef = g106 at ep
          generalize a.tmps.getD 107 undef = g107 at ep
          generalize a.tmps.getD 108 undef = g108 at ep
          generalize a.tmps.getD 109 undef = g109 at ep
          generalize a.tmps.getD 110 undef = g110 at ep
          generalize a.tmps.getD 111 undef = g111 at ep
          generalize a.tmps.getD 112 undef = g112 at ep
          generalize a.tmps.getD 113 undef = g113 at ep
          generalize a.tmps.getD 114 undef = g114 at ep
          simp only [Act.put, List.setIfInBounds_toArray, List.set_cons_succ, List.set_cons_zero] at ep
          subst ep
          go_wp2
          go_roundw
          case rel => exact ⟨k + 1, n, by omega, by omega, by go_num, by go_num, s1, Q1, H9.out.1, H9.out.2, HO.out.2.1, HO.out.2.2⟩
          case measure => simp [intOf]; omega
    · have e : k = M1 := by omega
      subst e
      have kf := hs.first (i := 0) (by decide)
      rw [hS.st] at kf
      have HO := hidden_ ho
      clear hs ho hS hn
      go_wp2_with (first | (go_at_call 24; refine kf.mono ?_; rintro e W5 ⟨rfl, h5⟩; obtain rfl := h5.symm; clear kf))
      go_ret
      exact ⟨rfl, HO.out.below (Nat.le_refl _)⟩

theorem contract (H : Type) (enc : TypeId × Value → H) (W : World) (base : Nat) (args : Array Value) (ds gs : List (DataW H)) (before : List MemPlace)
    (hval0 : ∀ (j : Nat) t v, Try.f6.params[j]? = some t → args[j]? = some v → Value.okWide Try.prog W .any base t v)
    (hW : DataW.Whole enc Try.prog Try.f6.params.toList Rows.kvPagesSpec.vars false W args.toList ds gs before) :
    Calls Try.prog 6 args W fun e W' => ∃ v, e = .returned v ∧ Rows.kvPagesSpec.post enc Try.prog Try.f6 false true false false W args v W' := by
  have hval : ∀ (j : Nat) t v, Try.f6.params[j]? = some t → args[j]? = some v → Value.okWide Try.prog W .any base t v := hval0
  have hW' := hW
  obtain ⟨p, q, hA0, hV, rfl, hfz, hnd⟩ := hW
  have hA : DataW.TrodAll enc Try.prog W 0 (fun _ => true) true Try.f6.params.toList args.toList ds p := hA0
  rw [Try.params6] at hA hval
  obtain ⟨v0, vs0, d0, ds0, p0, q0, hargs, rfl, rfl, h0, r0⟩ := trodAll_cons hA
  obtain ⟨v1, vs1, d1, ds1, p1, q1, rfl, rfl, rfl, h1, r1⟩ := trodAll_cons r0
  obtain ⟨v2, vs2, d2, ds2, p2, q2, rfl, rfl, rfl, h2, r2⟩ := trodAll_cons r1
  obtain ⟨rfl, rfl, rfl⟩ := trodAll_nil r2
  obtain rfl : args = #[v0, v1, v2] := by cases args; simp_all
  obtain ⟨rfl, rfl⟩ := trodVars_none hV
  obtain ⟨a0, rfl, rfl, rfl, w0⟩ := open_int Try.underlying3 (hval 0 3 v0 rfl rfl) h0
  obtain ⟨a1, rfl, rfl, rfl, w1⟩ := open_int Try.underlying3 (hval 1 3 v1 rfl rfl) h1
  obtain ⟨a2, rfl, rfl, rfl, w2⟩ := open_int Try.underlying3 (hval 2 3 v2 rfl rfl) h2
  clear hA0 hval0
  refine (walk a0 a1 a2 W w0 w1 w2).mono fun e W' ⟨he, bel⟩ => ?_
  subst he
  exact ⟨_, rfl, _, _, _, [], _, [], hW', trodAll_mk1 (shut_bool Try.underlying4 _), (trodAll_cons_mk (shut_int Try.underlying3 w0) (trodAll_cons_mk (shut_int Try.underlying3 w1) (trodAll_cons_mk (shut_int Try.underlying3 w2) trodAll_mk0))), rfl, bel.frame _, fun h => by cases h⟩

set_option maxRecDepth 100000 in
theorem lifted (os : Os) (started : os.Started) (H : Type) (enc : TypeId × Value → H) :
    ReturnsInHanded {} Try.checked os 6 .any (Rows.kvPagesSpec.pre6 enc Try.prog Try.f6 Rows.kvPagesRow.domain false) (Rows.kvPagesSpec.post enc Try.prog Try.f6 false true false false) := by
  refine returnsInHanded_of_change (C := Try.checked) own started (by kernel_rfl) Try.func6
    (ChangeSpec.witness6 (enc := enc) (C := Try.checked) false ⟨#[], #[.int .i64 0, .int .i64 0, .int .i64 0], []⟩ 8 (by kernel_rfl) (by kernel_rfl) (by kernel_rfl) (by kernel_rfl)) ?_
  intro W base args ds gs before hval hW _ _
  exact contract H enc W base args ds gs before hval hW

theorem over : Rows.kvPagesRow.holds Try.pinned (OpenSpec.ofChange Rows.kvPagesSpec) :=
  OpenClaim.holds_of_wide 6 Try.f6 rfl rfl rfl rfl rfl rfl rfl ⟨rfl, rfl, rfl, rfl, rfl⟩ rfl rfl rfl rfl rfl (by kernel_rfl) Try.func6 (by kernel_rfl)
    (of_decide_eq_true (by kernel_rfl)) (by unfold Func.isWrapper; first | (rw [if_pos (by decide +kernel)]; kernel_rfl) | (rw [if_neg (by decide +kernel)]; exact ⟨rfl, rfl⟩))
    (fun os started H enc _ => lifted os started H enc)

theorem proved : Rows.KvPagesSaid :=
  over
#print axioms proved
end Go.Proofs.Ytgjjeggopeppfaa.kvPages
