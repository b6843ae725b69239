/- Three rows, a fork, one row more, all released: works tells true. -/
import Derived.Test.YtgjjeggopeppfaaRows
import Derived.Test.YtgjjeggopeppfaaPages
import Derived.Test.YtgjjeggopeppfaaView
import Derived.Test.YtgjjeggopeppfaaOwn
import Derived.Test.YtgjjeggopeppfaaLeast
import Derived.Test.YtgjjeggopeppfaaLays
import Derived.Test.YtgjjeggopeppfaaTurns
import Derived.Test.YtgjjeggopeppfaaGoods
import Derived.Test.YtgjjeggopeppfaaNews
import Derived.Test.YtgjjeggopeppfaaCount
import Derived.Test.YtgjjeggopeppfaaLies
import Derived.Test.YtgjjeggopeppfaaSeqs
import Derived.Test.YtgjjeggopeppfaaSeqAt
import Derived.Test.YtgjjeggopeppfaaSeqRd
import Derived.Test.YtgjjeggopeppfaaSeqNeed
import Derived.Test.YtgjjeggopeppfaaReadsP
import Derived.Test.YtgjjeggopeppfaaReadsQ
import Derived.Test.YtgjjeggopeppfaaRoom1
import Derived.Test.YtgjjeggopeppfaaRoom
import Derived.Test.YtgjjeggopeppfaaCopyLast
import Derived.Test.YtgjjeggopeppfaaAppend
import Derived.Test.YtgjjeggopeppfaaPagesOf
import Derived.Test.YtgjjeggopeppfaaForks
import Derived.Test.YtgjjeggopeppfaaKeep
import Derived.Test.YtgjjeggopeppfaaRows13
import Derived.Test.YtgjjeggopeppfaaManySq
import Derived.Test.YtgjjeggopeppfaaManyRoom
import Derived.Test.YtgjjeggopeppfaaManyActs
import Derived.Test.YtgjjeggopeppfaaSeqsIn
import Derived.Test.YtgjjeggopeppfaaSame64
import Derived.Test.YtgjjeggopeppfaaSolo
import Derived.WalkKit
import Derived.ProofKit
import Derived.OpenShut
import Derived.Below
import Derived.WalkLawsBesides
import Derived.Deep.QuietTactic
import Derived.BigQuiet
namespace Go.Proofs.Ytgjjeggopeppfaa
open Go.ChangeShapes Go.WideShapes Go.ChangeAt Go.RowKit
set_option linter.unusedVariables false
set_option linter.unusedSimpArgs false

theorem Off.drawn' {B : Nat} {T : TypeId → Bool} {w w' : World} (h : Off B T w w') {m : Nat} {W : World} (e : W = w'.drewN m) : Off B T w W := by subst e; exact h.drewN m
/-- three rows are there: the fork -/
theorem wk_fork {s : Pl} {Q : Nat → Sq} (h : Solo 8 tR 16 s Q) (hn : (Q 0).n = 3) (hR : RowsAt 16 s 1 Q (fun _ k => lawRow 16 k)) : Wk (forkS s (Q 0)) (upd Q 1 (Q 0)) := by
  obtain ⟨m1, m2, m3⟩ := h.many.fork (i := 0) (by decide) (by decide)
  have hq := h.many.ok 0 (by decide)
  have e0 : upd Q 1 (Q 0) 0 = Q 0 := upd_other _ _ _ _ (by decide)
  have e1 : upd Q 1 (Q 0) 1 = Q 0 := upd_same _ _ _
  have hl : (Q 0).P.length = 2 := by
    have h1 := hq.hi
    have h2 := hq.lo
    rw [h.st, hn] at h1 h2
    omega
  refine ⟨m1, by have := h.free; omega, by rw [e0, e1], by rw [e0]; exact h.st, by rw [e0]; exact hn, ?_⟩
  have := m3 _ hR
  have e : upd (fun (_ k : Nat) => lawRow 16 (k : Int)) 1 (fun k : Nat => lawRow 16 (k : Int)) = fun (_ k : Nat) => lawRow 16 (k : Int) := by
    funext j
    simp only [upd]
    split <;> rfl
  rw [e] at this
  exact this

set_option maxRecDepth 20000 in
set_option maxHeartbeats 4000000 in
theorem works_call (w : World) : Calls Try.prog 22 #[] w fun e w' => e = .returned (.bool true) ∧ Below w.heap.size w w' := by
  have k7 := (show Calls Try.prog 7 #[.int .i64 8] w _ from new_call 8 (by decide) (by decide) w)
  have k9 : Hid (∀ b W, Calls Try.prog 9 #[.pointer (some ⟨b, 0, none⟩), .string ⟨#[114]⟩, .int .i64 16] W fun e w' => ∃ x, e = .returned (.tuple #[.pointer (some ⟨x, 0, none⟩), .int .i64 0]) ∧ W.heap.size ≤ x ∧ (∀ B, B ≤ W.heap.size → SeqAt B w' x b ⟨#[114]⟩ 16 ⟨[], 0, 0⟩ none 0) ∧ Below W.heap.size W w') := fun b W => new_call13 b ⟨#[114]⟩ 16 tR_ne (by decide) (by decide) W
  have k11 : Hid (∀ (z : Int), 0 ≤ z → z ≤ 1000 → ∀ W, Calls Try.prog 11 #[.int .i64 16, .int .i64 z] W fun e w' => ∃ ra rc, e = .returned (.slice ra 16 rc) ∧ RowJ W.heap.size w' ra 16 rc (lawRow 16 z) ∧ Below W.heap.size W w') := fun z h0 h1 W => lawRow_call 16 z h0 h1 (by decide) W
  go_enter Try.func22, Try.ntmps22
  go_wp2_with (first
    | (go_at_call 7; refine k7.mono ?_; rintro e W1 ⟨rfl, hp1, hb1⟩; have kk := k9.out (w.heap.size + 1) W1; have H1 := hidden_ (And.intro (hp1 w.heap.size (Nat.le_refl _)) hb1); clear hp1 hb1 k7)
    | (go_at_call 9; refine kk.mono ?_; rintro e W2 ⟨x, rfl, hx, hs2, hb2⟩; have H2 := hidden_ (And.intro (seqs_new (H1.out.1.below hb2) (hs2 w.heap.size H1.out.2.size)) (Off.of_below (B := w.heap.size) (T := TS) (below_then H1.out.2 hb2))); clear hs2 hb2 kk))
  obtain ⟨b, eb⟩ : ∃ b, w.heap.size + 1 = b := ⟨_, rfl⟩
  rw [eb] at H2 ⊢
  clear H1 eb hx
  go_loopw [4] (fun i wr => ∃ k : Nat, k ≤ 3 ∧ i = .int .i64 k ∧ ∃ s Q, SeqsIn w.heap.size wr b w.heap.size tR 16 s 1 Q (fun _ => x) ∧ Off w.heap.size TS w wr ∧ Solo 8 tR 16 s Q ∧ (Q 0).n = k ∧ RowsAt 16 s 1 Q (fun _ k => lawRow 16 k)) (fun i _ => 3 - (intOf i).toNat)
  case atStart => exact ⟨0, by omega, rfl, _, _, H2.out.1, H2.out.2, solo_new 8 tR 16 (by decide) (by decide) tR_ne (by decide) (by decide), rfl, fun i hi k h1 h2 => by have : k < 0 := h2; omega⟩
  case round =>
    clear H2
    obtain ⟨k, hk, rfl, s, Q, hs, ho, hS, hn, hR⟩ := hrel
    by_cases hlt : k < 3
    · have kr := k11.out k (by omega) (by omega) wr
      have hE := hS.appE (lawRow_len 16 k)
      rw [if_pos (by rw [hn]; omega)] at hE
      have ka : Hid (∀ W ra rc, Below wr.heap.size wr W → RowJ wr.heap.size W ra 16 rc (lawRow 16 k) → _) := fun W ra rc hb hr => (hs.below hb).append hS.many (i := 0) (by decide) (by omega) hr
      rw [hE] at ka
      have HF : Hid (∃ s Q', s = appS 16 tR s Q' (lawRow 16 k) ∨ True) := ⟨s, Q 0, .inr trivial⟩
      have HO := hidden_ (And.intro ho (And.intro hS (And.intro hn (And.intro hR hE))))
      clear hs ho hS hn hR hE HF
      go_wp2_with (first
        | (go_at_call 11; refine kr.mono ?_; rintro e W3 ⟨ra, rc, rfl, hr3, hb3⟩; have kk := ka.out W3 ra rc hb3 hr3; have H3 := hidden_ hb3; clear hr3 hb3 kr)
        | (go_at_call 12; refine kk.mono ?_; rintro e W4 ⟨rfl, hs4, ho4⟩; have H4 := hidden_ (And.intro hs4 ho4); clear hs4 ho4 kk))
      go_roundw
      case rel =>
        obtain ⟨ho, hS, hn, hR, hE⟩ := HO.out
        obtain ⟨S1, n1⟩ := hS.app (lawRow_len 16 k) (lawRow_wf 16 k (by omega) (by omega) (by decide)) (by omega) hE
        obtain ⟨_, _, r1⟩ := hS.many.app (i := 0) (by decide) (lawRow 16 k) (lawRow_wf 16 k (by omega) (by omega) (by decide)) (by omega) hE
        refine ⟨k + 1, by omega, by go_num, _, _, H4.out.1, (ho.trans (Off.of_below H3.out)).trans H4.out.2, S1, by rw [n1, hn], ?_⟩
        have := r1 _ hR
        rw [hn] at this
        intro i hi j h1 h2 c hc
        have e := this i hi j h1 h2 c hc
        rw [e]
        show (if i = 0 ∧ j = k then lawRow 16 k else lawRow 16 j).getD c 0 = _
        by_cases z : i = 0 ∧ j = k
        · rw [if_pos z, z.2]
        · rw [if_neg z]
      case measure => simp [intOf]; omega
    · have e : k = 3 := by omega
      subst e
      have hW := wk_fork hS hn hR
      have k14 := hs.fork hS.many (i := 0) (by decide)
      have hM := hW.many
      obtain ⟨S1, eS1⟩ : ∃ S1, forkS s (Q 0) = S1 := ⟨_, rfl⟩
      obtain ⟨Q1, eQ1⟩ : ∃ Q1, upd Q 1 (Q 0) = Q1 := ⟨_, rfl⟩
      simp only [eS1, eQ1, Nat.zero_add, Nat.reduceAdd] at k14 hW hM
      obtain ⟨a1, a2, a3, a4, a5, a6, a7⟩ := hW.next
      have nN : needV 16 S1 (Q1 0) = 1 := by unfold needV; rw [if_pos hW.need]
      have nN1 : needV 16 S1 (Q1 1) = 1 := by rw [hW.same]; exact nN
      have hn0 : (Q1 0).n < 1000 := by rw [hW.n]; decide
      obtain ⟨S2, eS2⟩ : ∃ S2, appS 16 tR S1 (Q1 0) (lawRow 16 9) = S2 := ⟨_, rfl⟩
      obtain ⟨Q2, eQ2⟩ : ∃ Q2, upd Q1 0 (appQ 16 tR S1 (Q1 0) (lawRow 16 9)) = Q2 := ⟨_, rfl⟩
      rw [eS2, eQ2] at a2 a3 a5 a6
      rw [eS2] at a4
      rw [eQ2] at a7
      obtain ⟨b1, b2⟩ := a2.end_ (i := 0) (by decide)
      obtain ⟨c1, c2⟩ := b1.end_ (i := 1) (by decide)
      obtain ⟨S3, eS3⟩ : ∃ S3, endS S2 (Q2 0) = S3 := ⟨_, rfl⟩
      obtain ⟨Q3, eQ3⟩ : ∃ Q3, upd Q2 0 (endQ (Q2 0)) = Q3 := ⟨_, rfl⟩
      rw [eS3, eQ3] at b1 c1
      obtain ⟨d1, d2⟩ := c1.empty (fun i hi => by
        by_cases e : i = 1
        · subst e; rw [upd_same]; rfl
        · obtain rfl : i = 0 := by omega
          rw [upd_other _ _ _ _ (by decide), ← eQ3, upd_same]
          rfl)
      have kn : Hid (∀ W x', SeqsIn w.heap.size W b w.heap.size tR 16 S1 2 Q1 (upd (fun _ => x) 1 x') → Calls Try.prog 29 #[.pointer (some ⟨x, 0, none⟩)] W fun e w' => e = .returned (.int .i64 1) ∧ ∃ m, w' = W.drewN m) := fun W x' h => by
        have := h.need hM (i := 0) (by decide)
        rw [nN, upd_other _ _ _ _ (by decide)] at this
        exact this
      have kn' : Hid (∀ W x', SeqsIn w.heap.size W b w.heap.size tR 16 S1 2 Q1 (upd (fun _ => x) 1 x') → Calls Try.prog 29 #[.pointer (some ⟨x', 0, none⟩)] W fun e w' => e = .returned (.int .i64 1) ∧ ∃ m, w' = W.drewN m) := fun W x' h => by
        have := h.need hM (i := 1) (by decide)
        rw [nN1, upd_same] at this
        exact this
      have ka : Hid (∀ W x' B' ra rc, SeqsIn w.heap.size W b w.heap.size tR 16 S1 2 Q1 (upd (fun _ => x) 1 x') → RowJ B' W ra 16 rc (lawRow 16 9) → Calls Try.prog 12 #[.pointer (some ⟨x, 0, none⟩), .slice ra (16 : Nat) rc] W fun e w' => e = .returned (.int .i64 0) ∧ SeqsIn w.heap.size w' b w.heap.size tR 16 S2 2 Q2 (upd (fun _ => x) 1 x') ∧ Off w.heap.size TS W w') := fun W x' B' ra rc h hr => by
        have := h.append hM (i := 0) (by decide) hn0 hr
        rw [a1, eS2, eQ2, upd_other _ _ _ _ (by decide)] at this
        exact this
      have km : Hid (∀ W x', SeqsIn w.heap.size W b w.heap.size tR 16 S2 2 Q2 (upd (fun _ => x) 1 x') → Calls Try.prog 29 #[.pointer (some ⟨x', 0, none⟩)] W fun e w' => e = .returned (.int .i64 0) ∧ ∃ m, w' = W.drewN m) := fun W x' h => by
        have := h.need a2 (i := 1) (by decide)
        rw [a3, upd_same] at this
        exact this
      have kc : Hid (∀ W x', SeqsIn w.heap.size W b w.heap.size tR 16 S2 2 Q2 (upd (fun _ => x) 1 x') → Calls Try.prog 28 #[.pointer (some ⟨b, 0, none⟩), .string ⟨#[114]⟩] W fun e w' => e = .returned (.int .i64 3) ∧ w' = W) := fun W x' h => by
        have := h.count a2
        rw [a4] at this
        exact this
      have kr2 : Hid (∀ W x', SeqsIn w.heap.size W b w.heap.size tR 16 S2 2 Q2 (upd (fun _ => x) 1 x') → Calls Try.prog 25 #[.pointer (some ⟨x', 0, none⟩), .int .i64 2] W fun e w' => ∃ ra rl rc, e = .returned (.tuple #[.slice ra rl rc, .int .i64 0]) ∧ RowJ W.heap.size w' ra rl rc (lawRow 16 2) ∧ Below W.heap.size W w') := fun W x' h => by
        have := h.row a2 (i := 1) (by decide) 2
        rw [a5.1, a5.2, upd_same] at this
        exact this
      have kr3 : Hid (∀ W x', SeqsIn w.heap.size W b w.heap.size tR 16 S2 2 Q2 (upd (fun _ => x) 1 x') → Calls Try.prog 25 #[.pointer (some ⟨x, 0, none⟩), .int .i64 3] W fun e w' => ∃ ra rl rc, e = .returned (.tuple #[.slice ra rl rc, .int .i64 0]) ∧ RowJ W.heap.size w' ra rl rc (lawRow 16 9) ∧ Below W.heap.size W w') := fun W x' h => by
        have := h.row a2 (i := 0) (by decide) 3
        rw [a6.1, a6.2, upd_other _ _ _ _ (by decide)] at this
        exact this
      have kr4 : Hid (∀ W x', SeqsIn w.heap.size W b w.heap.size tR 16 S2 2 Q2 (upd (fun _ => x) 1 x') → Calls Try.prog 25 #[.pointer (some ⟨x', 0, none⟩), .int .i64 3] W fun e w' => ∃ ra rl rc, e = .returned (.tuple #[.slice ra rl rc, .int .i64 25]) ∧ Below W.heap.size W w') := fun W x' h => by
        refine (h.row a2 (i := 1) (by decide) 3).mono ?_
        rw [a7]
        rintro e w' ⟨ra, rl, rc, rfl, _, hb⟩
        exact ⟨ra, rl, rc, rfl, hb⟩
      have ke : Hid (∀ W x', SeqsIn w.heap.size W b w.heap.size tR 16 S2 2 Q2 (upd (fun _ => x) 1 x') → Calls Try.prog 18 #[.pointer (some ⟨x, 0, none⟩)] W fun e w' => e = .returned (.tuple #[]) ∧ SeqsIn w.heap.size w' b w.heap.size tR 16 S3 2 Q3 (upd (fun _ => x) 1 x') ∧ Off w.heap.size TS W w') := fun W x' h => by
        have := h.end_ a2 (i := 0) (by decide)
        rw [eS3, eQ3, upd_other _ _ _ _ (by decide)] at this
        exact this
      have ke' : Hid (∀ W x', SeqsIn w.heap.size W b w.heap.size tR 16 S3 2 Q3 (upd (fun _ => x) 1 x') → Calls Try.prog 18 #[.pointer (some ⟨x', 0, none⟩)] W fun e w' => e = .returned (.tuple #[]) ∧ SeqsIn w.heap.size w' b w.heap.size tR 16 (endS S3 (Q3 1)) 2 (upd Q3 1 (endQ (Q3 1))) (upd (fun _ => x) 1 x') ∧ Off w.heap.size TS W w') := fun W x' h => by
        have := h.end_ b1 (i := 1) (by decide)
        rw [upd_same] at this
        exact this
      have kz : Hid (∀ W x', SeqsIn w.heap.size W b w.heap.size tR 16 (endS S3 (Q3 1)) 2 (upd Q3 1 (endQ (Q3 1))) (upd (fun _ => x) 1 x') → Calls Try.prog 28 #[.pointer (some ⟨b, 0, none⟩), .string ⟨#[114]⟩] W fun e w' => e = .returned (.int .i64 0) ∧ w' = W) := fun W x' h => by
        have := h.count c1
        rw [d2] at this
        exact this
      have HO := hidden_ ho
      clear hs hS hn hR hW hM a1 a2 a3 a4 a5 a6 a7 nN nN1 hn0 eS1 eQ1 eS2 eQ2 eS3 eQ3 b1 b2 c1 c2 d1 d2 ho hk hlt
      go_wp2_with (first
        | (go_at_call 14; refine k14.mono ?_; rintro e W3 ⟨x', rfl, hs3, ho3⟩; have q1 := kn.out W3 x' hs3; have H3 := hidden_ (And.intro hs3 (HO.out.trans ho3)); clear hs3 ho3 k14 kn)
        | (go_at_call 29; refine q1.mono ?_; rintro e W4 ⟨rfl, m4, h4⟩; have hs4 := H3.out.1.drewN m4; rw [← h4] at hs4; have q2 := kn'.out W4 x' hs4; have H4 := hidden_ (And.intro hs4 (H3.out.2.drawn' h4)); clear hs4 h4 q1 kn' H3)
        | (go_at_call 29; refine q2.mono ?_; rintro e W5 ⟨rfl, m5, h5⟩; have hs5 := H4.out.1.drewN m5; rw [← h5] at hs5; have q3 := k11.out 9 (by decide) (by decide) W5; have H5 := hidden_ (And.intro hs5 (H4.out.2.drawn' h5)); clear hs5 h5 q2 H4)
        | (go_at_call 11; refine q3.mono ?_; rintro e W6 ⟨ra6, rc6, rfl, hr6, hb6⟩; have q4 := ka.out W6 x' _ ra6 rc6 (H5.out.1.below hb6) hr6; have H6 := hidden_ (H5.out.2.trans (Off.of_below hb6)); clear hr6 hb6 q3 H5 ka)
        | (go_at_call 12; refine q4.mono ?_; rintro e W7 ⟨rfl, hs7, ho7⟩; have q5 := km.out W7 x' hs7; have H7 := hidden_ (And.intro hs7 (H6.out.trans ho7)); clear hs7 ho7 q4 H6 km)
        | (go_at_call 29; refine q5.mono ?_; rintro e W8 ⟨rfl, m8, h8⟩; have hs8 := H7.out.1.drewN m8; rw [← h8] at hs8; have q6 := kc.out W8 x' hs8; have q7 := kr2.out W8 x' hs8; have H8 := hidden_ (And.intro hs8 (H7.out.2.drawn' h8)); clear hs8 h8 q5 H7 kc kr2)
        | (go_at_call 28; refine q6.mono ?_; rintro e W9 ⟨rfl, h9⟩; obtain rfl := h9.symm; clear q6)
        | (go_at_call 25; refine q7.mono ?_; rintro e WA ⟨ra, rl, rc, rfl, hrA, hbA⟩; have q8 := kr3.out WA x' (H8.out.1.below hbA); have HA := hidden_ (And.intro (H8.out.1.below hbA) (And.intro (H8.out.2.trans (Off.of_below hbA)) hrA)); clear hrA hbA q7 H8 kr3)
        | (go_at_call 25; refine q8.mono ?_; rintro e WB ⟨rb, rbl, rbc, rfl, hrB, hbB⟩; have q9 := kr4.out WB x' (HA.out.1.below hbB); have HB := hidden_ (And.intro (HA.out.1.below hbB) (And.intro (HA.out.2.1.trans (Off.of_below hbB)) (And.intro (HA.out.2.2.below hbB) hrB))); clear hrB hbB q8 HA kr4)
        | (go_at_call 25; refine q9.mono ?_; rintro e WC ⟨rca, rcl, rcc, rfl, hbC⟩; have q10 := ke.out WC x' (HB.out.1.below hbC); have HC := hidden_ (And.intro (HB.out.2.1.trans (Off.of_below hbC)) (And.intro (HB.out.2.2.1.below hbC) (HB.out.2.2.2.below hbC))); clear hbC q9 HB ke)
        | (go_at_call 18; refine q10.mono ?_; rintro e WD ⟨rfl, hsD, hoD⟩; have q11 := ke'.out WD x' hsD; have HD := hidden_ (And.intro (HC.out.1.trans hoD) (And.intro (HC.out.2.1.off hoD rfl) (HC.out.2.2.off hoD rfl))); clear hsD hoD q10 HC ke')
        | (go_at_call 18; refine q11.mono ?_; rintro e WE ⟨rfl, hsE, hoE⟩; have q12 := k11.out 2 (by decide) (by decide) WE; have HE := hidden_ (And.intro hsE (And.intro (HD.out.1.trans hoE) (And.intro (HD.out.2.1.off hoE rfl) (HD.out.2.2.off hoE rfl)))); clear hsE hoE q11 HD)
        | (go_at_call 11; refine q12.mono ?_; rintro e WF ⟨raF, rcF, rfl, hrF, hbF⟩; have q13 := same_rows ra rl rc (lawRow 16 2) raF 16 rcF WF (HE.out.2.2.1.below hbF).reads hrF.reads; have HF := hidden_ (And.intro (HE.out.1.below hbF) (And.intro (HE.out.2.1.trans (Off.of_below hbF)) (HE.out.2.2.2.below hbF))); clear hrF hbF q12 HE)
        | (go_at_call 26; refine q13.mono ?_; rintro e WG ⟨rfl, mG, hG⟩; have hsG := HF.out.1.drewN mG; rw [← hG] at hsG; have hrG := HF.out.2.2.below (show Below WF.heap.size WF WG by rw [hG]; exact ⟨rfl, rfl, rfl, Nat.le_refl _, fun _ _ => rfl⟩); have q14 := k11.out 9 (by decide) (by decide) WG; have HG := hidden_ (And.intro hsG (And.intro (HF.out.2.1.drawn' hG) hrG)); clear hsG hrG hG q13 HF)
        | (go_at_call 11; refine q14.mono ?_; rintro e WH ⟨raH, rcH, rfl, hrH, hbH⟩; have q15 := same_rows rb rbl rbc (lawRow 16 9) raH 16 rcH WH (HG.out.2.2.below hbH).reads hrH.reads; have HH := hidden_ (And.intro (HG.out.1.below hbH) (HG.out.2.1.trans (Off.of_below hbH))); clear hrH hbH q14 HG)
        | (go_at_call 26; refine q15.mono ?_; rintro e WI ⟨rfl, mI, hI⟩; have hsI := HH.out.1.drewN mI; rw [← hI] at hsI; have q16 := kz.out WI x' hsI; have HI := hidden_ (HH.out.2.drawn' hI); clear hsI hI q15 HH kz)
        | (go_at_call 28; refine q16.mono ?_; rintro e WJ ⟨rfl, hJ⟩; obtain rfl := hJ.symm; clear q16))
      go_ret
      exact ⟨rfl, HI.out.below (Nat.le_refl _)⟩

end Go.Proofs.Ytgjjeggopeppfaa
