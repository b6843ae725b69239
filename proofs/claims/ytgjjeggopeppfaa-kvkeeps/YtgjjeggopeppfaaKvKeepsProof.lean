/- KvKeeps, of layer 13: of the last so many rows none is let go of, for every width, count and number. -/
import Derived.Test.YtgjjeggopeppfaaRows
import Derived.Test.YtgjjeggopeppfaaPages
import Derived.Test.YtgjjeggopeppfaaView
import Derived.Test.YtgjjeggopeppfaaOwn
import Derived.Test.YtgjjeggopeppfaaLeast
import Derived.Test.YtgjjeggopeppfaaLays
import Derived.Test.YtgjjeggopeppfaaTurns
import Derived.Test.YtgjjeggopeppfaaGoods
import Derived.Test.YtgjjeggopeppfaaNews
import Derived.Test.YtgjjeggopeppfaaCount
import Derived.Test.YtgjjeggopeppfaaLies
import Derived.Test.YtgjjeggopeppfaaSeqs
import Derived.Test.YtgjjeggopeppfaaSeqAt
import Derived.Test.YtgjjeggopeppfaaSeqRd
import Derived.Test.YtgjjeggopeppfaaSeqNeed
import Derived.Test.YtgjjeggopeppfaaReadsP
import Derived.Test.YtgjjeggopeppfaaReadsQ
import Derived.Test.YtgjjeggopeppfaaRoom1
import Derived.Test.YtgjjeggopeppfaaRoom
import Derived.Test.YtgjjeggopeppfaaCopyLast
import Derived.Test.YtgjjeggopeppfaaAppend
import Derived.Test.YtgjjeggopeppfaaPagesOf
import Derived.Test.YtgjjeggopeppfaaForks
import Derived.Test.YtgjjeggopeppfaaKeep
import Derived.Test.YtgjjeggopeppfaaRows13
import Derived.Test.YtgjjeggopeppfaaManySq
import Derived.Test.YtgjjeggopeppfaaManyRoom
import Derived.Test.YtgjjeggopeppfaaManyActs
import Derived.Test.YtgjjeggopeppfaaSeqsIn
import Derived.Test.YtgjjeggopeppfaaSame64
import Derived.Test.YtgjjeggopeppfaaSolo
import Derived.Test.YtgjjeggopeppfaaWorks13
import Derived.Test.YtgjjeggopeppfaaRest
import Derived.WalkKit
import Derived.ProofKit
import Derived.OpenShut
import Derived.ChangeOld
import Derived.Below
import Derived.WalkLawsBesides
import Derived.ChangeMaps5
import Derived.Deep.QuietTactic
import Derived.BigQuiet
import Derived.OwnWalk
import Derived.Deep.RegionHeld3
namespace Go.Proofs.Ytgjjeggopeppfaa.kvKeeps
open Go.ChangeShapes Go.WideShapes Go.ChangeAt Go.RowKit
set_option linter.unusedVariables false
set_option linter.unusedSimpArgs false

theorem own : ownKnob Try.prog.godebug = none := by kernel_rfl
theorem laidOut : laidOutB Try.prog = true := by kernel_rfl

theorem keep_first (wd M1 M2 : Nat) (q : Sq) (hs : q.st = 0) (hn : q.n = M1) : (keepQ wd q (M2 : Int)).st = (M1 - M2) / (32 / wd) * (32 / wd) ∧ (keepQ wd q (M2 : Int)).n = M1 := by
  refine ⟨?_, hn⟩
  show q.st + keepN wd q (M2 : Int) * (32 / wd) = _
  rw [hs, Nat.zero_add]
  unfold keepN
  rw [hs, hn, Nat.sub_zero, show ((M1 : Int) - max (M2 : Int) 0).toNat = M1 - M2 by omega]


set_option maxHeartbeats 4000000 in
set_option maxRecDepth 20000 in
theorem walk (a0 : Int) (a1 : Int) (a2 : Int) (w : World) (w0 : (Lit.int .i64 a0).wf = true) (w1 : (Lit.int .i64 a1).wf = true) (w2 : (Lit.int .i64 a2).wf = true) :
    Calls Try.prog 5 #[.int .i64 a0, .int .i64 a1, .int .i64 a2] w fun e w' => e = .returned (.bool true) ∧ Below w.heap.size w w' := by
  obtain ⟨M0, hM0, (e0 : (IntKind.u64.wrap a0).tmod 32 = (M0 : Int)), (e0' : IntKind.u64.wrap a0 % 32 = (M0 : Int))⟩ := restN a0 32 (by decide)
  obtain ⟨M1, hM1, (e1 : (IntKind.u64.wrap a1).tmod 60 = (M1 : Int)), (e1' : IntKind.u64.wrap a1 % 60 = (M1 : Int))⟩ := restN a1 60 (by decide)
  obtain ⟨M2, hM2, (e2 : (IntKind.u64.wrap a2).tmod 70 = (M2 : Int)), (e2' : IntKind.u64.wrap a2 % 70 = (M2 : Int))⟩ := restN a2 70 (by decide)
  obtain ⟨wd, ew⟩ : ∃ wd : Nat, 1 + M0 = wd := ⟨_, rfl⟩
  have ew' : (1 : Int) + (M0 : Int) = (wd : Int) := by omega
  have wd0 : 1 ≤ wd := by omega
  have wd1 : wd ≤ 32 := by omega
  clear ew
  have k22 := works_call w
  have k7 := fun (W : World) => (show Calls Try.prog 7 #[.int .i64 64] W _ from new_call 64 (by decide) (by decide) W)
  have k9 : Hid (∀ b W, Calls Try.prog 9 #[.pointer (some ⟨b, 0, none⟩), .string ⟨#[114]⟩, .int .i64 wd] W fun e w' => ∃ x, e = .returned (.tuple #[.pointer (some ⟨x, 0, none⟩), .int .i64 0]) ∧ W.heap.size ≤ x ∧ (∀ B, B ≤ W.heap.size → SeqAt B w' x b ⟨#[114]⟩ wd ⟨[], 0, 0⟩ none 0) ∧ Below W.heap.size W w') := fun b W => new_call13 b ⟨#[114]⟩ wd tR_ne wd0 wd1 W
  have k11 : Hid (∀ (z : Int), 0 ≤ z → z ≤ 1000 → ∀ W, Calls Try.prog 11 #[.int .i64 wd, .int .i64 z] W fun e w' => ∃ ra rc, e = .returned (.slice ra wd rc) ∧ RowJ W.heap.size w' ra wd rc (lawRow wd z) ∧ Below W.heap.size W w') := fun z h0 h1 W => lawRow_call wd z h0 h1 wd1 W
  obtain ⟨r, er, eq1, r0, r1, eq2⟩ := quo32 wd0 wd1
  have Her := hidden_ er
  clear er
  go_enter Try.func5, Try.ntmps5
  go_wp2_with (first
    | (go_at_call 22; refine k22.mono ?_; rintro e W1 ⟨rfl, hb1⟩; have q7 := k7 W1; have H1 := hidden_ hb1; clear k22 k7 hb1)
    | (go_at_call 7; refine q7.mono ?_; rintro e W2 ⟨rfl, hp2, hb2⟩; have q9 := k9.out (W1.heap.size + 1) W2; have H2 := hidden_ (And.intro (hp2 w.heap.size H1.out.size) (below_then H1.out hb2)); clear q7 hp2 hb2)
    | (go_at_call 9; refine q9.mono ?_; rintro e W3 ⟨x, rfl, hx, hs3, hb3⟩; have H3 := hidden_ (And.intro (seqs_new (H2.out.1.below hb3) (hs3 w.heap.size H2.out.2.size)) (Off.of_below (B := w.heap.size) (T := TS) (below_then H2.out.2 hb3))); clear hs3 hb3 q9))
  obtain ⟨b, eb⟩ : ∃ b, W1.heap.size + 1 = b := ⟨_, rfl⟩
  obtain ⟨g, eg⟩ : ∃ g, W1.heap.size = g := ⟨_, rfl⟩
  rw [eb, eg] at H3
  rw [eb]
  clear H1 H2 eb eg hx e0 e0' e1 e1' e2 e2' ew'
  go_loopw [11] (fun i wr => ∃ k : Nat, k ≤ M1 ∧ i = .int .i64 k ∧ ∃ s Q, SeqsIn w.heap.size wr b g tR wd s 1 Q (fun _ => x) ∧ Off w.heap.size TS w wr ∧ Solo 64 tR wd s Q ∧ (Q 0).n = k) (fun i _ => M1 - (intOf i).toNat)
  case atStart => exact ⟨0, by omega, rfl, _, _, H3.out.1, H3.out.2, solo_new 64 tR wd (by decide) (by decide) tR_ne wd0 wd1, rfl⟩
  case round =>
    clear H3
    obtain ⟨k, hk, rfl, s, Q, hs, ho, hS, hn⟩ := hrel
    by_cases hlt : k < M1
    · have kr := k11.out k (by omega) (by omega) wr
      have hE := hS.appE (lawRow_len wd k)
      rw [if_pos (by rw [hn, Her.out]; omega)] at hE
      have ka : Hid (∀ W ra rc, Below wr.heap.size wr W → RowJ wr.heap.size W ra wd rc (lawRow wd k) → _) := fun W ra rc hb hr => (hs.below hb).append hS.many (i := 0) (by decide) (by omega) hr
      rw [hE] at ka
      have HO := hidden_ (And.intro ho (And.intro hS (And.intro hn hE)))
      clear hs ho hS hn hE
      go_wp2_with (first
        | (go_at_call 11; refine kr.mono ?_; rintro e W3 ⟨ra, rc, rfl, hr3, hb3⟩; have kk := ka.out W3 ra rc hb3 hr3; have H3 := hidden_ hb3; clear hr3 hb3 kr)
        | (go_at_call 12; refine kk.mono ?_; rintro e W4 ⟨rfl, hs4, ho4⟩; have H4 := hidden_ (And.intro hs4 ho4); clear hs4 ho4 kk))
      go_roundw
      case rel =>
        obtain ⟨ho, hS, hn, hE⟩ := HO.out
        obtain ⟨S1, n1⟩ := hS.app (lawRow_len wd k) (lawRow_wf wd k (by omega) (by omega) wd1) (by omega) hE
        exact ⟨k + 1, by omega, by go_num, _, _, H4.out.1, (ho.trans (Off.of_below H3.out)).trans H4.out.2, S1, by rw [n1, hn]⟩
      case measure => simp [intOf]; omega
    · have e : k = M1 := by omega
      subst e
      have k16 := hs.keep hS.many (i := 0) (by decide) M2 (by omega)
      obtain ⟨f1, f2⟩ := keep_first wd k M2 (Q 0) hS.st hn
      rw [Her.out] at f1
      obtain ⟨S1, eS1⟩ : ∃ S1, keepS wd s (Q 0) (M2 : Int) = S1 := ⟨_, rfl⟩
      obtain ⟨Q1, eQ1⟩ : ∃ Q1, upd Q 0 (keepQ wd (Q 0) (M2 : Int)) = Q1 := ⟨_, rfl⟩
      rw [eS1, eQ1] at k16
      have g1 : (Q1 0).st = (k - M2) / r * r := by rw [← eQ1, upd_same]; exact f1
      have g2 : (Q1 0).n = k := by rw [← eQ1, upd_same]; exact f2
      have kf : Hid (∀ W, SeqsIn w.heap.size W b g tR wd S1 1 Q1 (fun _ => x) → Calls Try.prog 24 #[.pointer (some ⟨x, 0, none⟩)] W fun e w' => e = .returned (.int .i64 ((k - M2) / r * r : Nat)) ∧ w' = W) := fun W h => by
        have := h.first (i := 0) (by decide)
        rw [g1] at this
        exact this
      have kl : Hid (∀ W, SeqsIn w.heap.size W b g tR wd S1 1 Q1 (fun _ => x) → Calls Try.prog 23 #[.pointer (some ⟨x, 0, none⟩)] W fun e w' => e = .returned (.int .i64 (k : Nat)) ∧ w' = W) := fun W h => by
        have := h.len (i := 0) (by decide)
        rw [g2] at this
        exact this
      have HO := hidden_ ho
      clear hs ho hS hn f1 f2 g1 g2 eS1 eQ1 hk hlt
      have t1 := tmodN k r
      have t2 := tdivN k r
      have v1 : k / r * r ≤ k := Nat.div_mul_le_self _ _
      have v2 : k / r ≤ k := Nat.div_le_self _ _
      have v3 : (k - M2) / r * r ≤ k / r * r := Nat.mul_le_mul_right _ (Nat.div_le_div_right (Nat.sub_le _ _))
      have v4 : (k - M2) / r ≤ k / r := Nat.div_le_div_right (Nat.sub_le _ _)
      have v5 : k % r ≤ k := Nat.mod_le _ _
      have d1 := tdivN (k - M2) r
      obtain ⟨U, eU⟩ : ∃ U, k / r = U := ⟨_, rfl⟩
      obtain ⟨V, eV⟩ : ∃ V, U * r = V := ⟨_, rfl⟩
      obtain ⟨Y, eY⟩ : ∃ Y, k % r = Y := ⟨_, rfl⟩
      obtain ⟨U2, eU2⟩ : ∃ U2, (k - M2) / r = U2 := ⟨_, rfl⟩
      obtain ⟨V2, eV2⟩ : ∃ V2, U2 * r = V2 := ⟨_, rfl⟩
      simp only [eU, eV, eY, eU2, eV2] at t1 t2 v1 v2 v3 v4 v5 d1 kf
      have p1 : (U : Int) * (r : Int) = (V : Int) := by rw [← Int.natCast_mul, eV]
      have p2 : (U2 : Int) * (r : Int) = (V2 : Int) := by rw [← Int.natCast_mul, eV2]
      have x1 := wrap_nat (n := U) (by omega)
      have x2 := wrap_nat (n := V) (by omega)
      have x3 := wrap_nat (n := Y) (by omega)
      have x4 := wrap_nat (n := U2) (by omega)
      have x5 := wrap_nat (n := V2) (by omega)
      have y1 : (k : Int) / (r : Int) = (U : Int) := by rw [← Int.natCast_ediv, eU]
      have y2 : (k : Int) % (r : Int) = (Y : Int) := by rw [← Int.natCast_emod, eY]
      have y3 : (((k - M2 : Nat) : Int)) / (r : Int) = (U2 : Int) := by rw [← Int.natCast_ediv, eU2]
      have z' : ¬ ((r : Int) = 0) := by omega
      have zw : ¬ ((wd : Int) = 0) := by omega
      have c1 : (V2 : Int) ≤ (V : Int) := by omega
      have c2 : (V2 : Int) ≤ (k : Int) := by omega
      have dd : (M2 < k ∧ (k : Int) - (M2 : Int) = ((k - M2 : Nat) : Int)) ∨ (k ≤ M2 ∧ k - M2 = 0) := by omega
      clear eU eV eY eV2
      obtain ⟨D, eD⟩ : ∃ D, k - M2 = D := ⟨_, rfl⟩
      rw [eD] at d1 dd eU2 y3
      have hD : D ≤ k := by omega
      clear eD
      rcases dd with ⟨h1, h2⟩ | ⟨h1, h2⟩
      · have c3 : 0 < D := by omega
        have c3' : (0 : Int) < (D : Int) := by omega
        by_cases hy : Y = 0
        · have hy' : ((Y : Int) == 0) = true := by simp; omega
          have hy'' : ((Y : Int) != 0) = false := by simp; omega
          clear eU2
          go_wp2_with (first
            | (go_at_call 16; refine k16.mono ?_; rintro e W5 ⟨rfl, hs5, ho5⟩; have qf := kf.out W5 hs5; have ql := kl.out W5 hs5; have H5 := hidden_ (HO.out.trans ho5); clear k16 hs5 ho5 HO)
            | (go_at_call 24; refine qf.mono ?_; rintro e W6 ⟨rfl, h6⟩; obtain rfl := h6.symm; clear qf)
            | (go_at_call 23; refine ql.mono ?_; rintro e W6 ⟨rfl, h6⟩; obtain rfl := h6.symm; clear ql))
          go_ret
          exact ⟨rfl, H5.out.below (Nat.le_refl _)⟩
        · have hy' : ((Y : Int) == 0) = false := by simp; omega
          have hy'' : ((Y : Int) != 0) = true := by simp; omega
          clear eU2
          go_wp2_with (first
            | (go_at_call 16; refine k16.mono ?_; rintro e W5 ⟨rfl, hs5, ho5⟩; have qf := kf.out W5 hs5; have ql := kl.out W5 hs5; have H5 := hidden_ (HO.out.trans ho5); clear k16 hs5 ho5 HO)
            | (go_at_call 24; refine qf.mono ?_; rintro e W6 ⟨rfl, h6⟩; obtain rfl := h6.symm; clear qf)
            | (go_at_call 23; refine ql.mono ?_; rintro e W6 ⟨rfl, h6⟩; obtain rfl := h6.symm; clear ql))
          go_ret
          exact ⟨rfl, H5.out.below (Nat.le_refl _)⟩
      · subst h2
        rw [Nat.zero_div] at eU2
        subst eU2
        have hV2 : V2 = 0 := by simpa using p2.symm
        subst hV2
        have c3 : (k : Int) - (M2 : Int) ≤ 0 := by omega
        have c4 : ¬ (0 : Int) < (k : Int) - (M2 : Int) := by omega
        by_cases hy : Y = 0
        · have hy' : ((Y : Int) == 0) = true := by simp; omega
          have hy'' : ((Y : Int) != 0) = false := by simp; omega
          go_wp2_with (first
            | (go_at_call 16; refine k16.mono ?_; rintro e W5 ⟨rfl, hs5, ho5⟩; have qf := kf.out W5 hs5; have ql := kl.out W5 hs5; have H5 := hidden_ (HO.out.trans ho5); clear k16 hs5 ho5 HO)
            | (go_at_call 24; refine qf.mono ?_; rintro e W6 ⟨rfl, h6⟩; obtain rfl := h6.symm; clear qf)
            | (go_at_call 23; refine ql.mono ?_; rintro e W6 ⟨rfl, h6⟩; obtain rfl := h6.symm; clear ql))
          go_ret
          exact ⟨rfl, H5.out.below (Nat.le_refl _)⟩
        · have hy' : ((Y : Int) == 0) = false := by simp; omega
          have hy'' : ((Y : Int) != 0) = true := by simp; omega
          go_wp2_with (first
            | (go_at_call 16; refine k16.mono ?_; rintro e W5 ⟨rfl, hs5, ho5⟩; have qf := kf.out W5 hs5; have ql := kl.out W5 hs5; have H5 := hidden_ (HO.out.trans ho5); clear k16 hs5 ho5 HO)
            | (go_at_call 24; refine qf.mono ?_; rintro e W6 ⟨rfl, h6⟩; obtain rfl := h6.symm; clear qf)
            | (go_at_call 23; refine ql.mono ?_; rintro e W6 ⟨rfl, h6⟩; obtain rfl := h6.symm; clear ql))
          go_ret
          exact ⟨rfl, H5.out.below (Nat.le_refl _)⟩

theorem contract (H : Type) (enc : TypeId × Value → H) (W : World) (base : Nat) (args : Array Value) (ds gs : List (DataW H)) (before : List MemPlace)
    (hval0 : ∀ (j : Nat) t v, Try.f5.params[j]? = some t → args[j]? = some v → Value.okWide Try.prog W .any base t v)
    (hW : DataW.Whole enc Try.prog Try.f5.params.toList Rows.kvKeepsSpec.vars false W args.toList ds gs before) :
    Calls Try.prog 5 args W fun e W' => ∃ v, e = .returned v ∧ Rows.kvKeepsSpec.post enc Try.prog Try.f5 false true false false W args v W' := by
  have hval : ∀ (j : Nat) t v, Try.f5.params[j]? = some t → args[j]? = some v → Value.okWide Try.prog W .any base t v := hval0
  have hW' := hW
  obtain ⟨p, q, hA0, hV, rfl, hfz, hnd⟩ := hW
  have hA : DataW.TrodAll enc Try.prog W 0 (fun _ => true) true Try.f5.params.toList args.toList ds p := hA0
  rw [Try.params5] at hA hval
  obtain ⟨v0, vs0, d0, ds0, p0, q0, hargs, rfl, rfl, h0, r0⟩ := trodAll_cons hA
  obtain ⟨v1, vs1, d1, ds1, p1, q1, rfl, rfl, rfl, h1, r1⟩ := trodAll_cons r0
  obtain ⟨v2, vs2, d2, ds2, p2, q2, rfl, rfl, rfl, h2, r2⟩ := trodAll_cons r1
  obtain ⟨rfl, rfl, rfl⟩ := trodAll_nil r2
  obtain rfl : args = #[v0, v1, v2] := by cases args; simp_all
  obtain ⟨rfl, rfl⟩ := trodVars_none hV
  obtain ⟨a0, rfl, rfl, rfl, w0⟩ := open_int Try.underlying3 (hval 0 3 v0 rfl rfl) h0
  obtain ⟨a1, rfl, rfl, rfl, w1⟩ := open_int Try.underlying3 (hval 1 3 v1 rfl rfl) h1
  obtain ⟨a2, rfl, rfl, rfl, w2⟩ := open_int Try.underlying3 (hval 2 3 v2 rfl rfl) h2
  clear hA0 hval0
  refine (walk a0 a1 a2 W w0 w1 w2).mono fun e W' ⟨he, bel⟩ => ?_
  subst he
  exact ⟨_, rfl, _, _, _, [], _, [], hW', trodAll_mk1 (shut_bool Try.underlying4 _), (trodAll_cons_mk (shut_int Try.underlying3 w0) (trodAll_cons_mk (shut_int Try.underlying3 w1) (trodAll_cons_mk (shut_int Try.underlying3 w2) trodAll_mk0))), rfl, bel.frame _, fun h => by cases h⟩

set_option maxRecDepth 100000 in
theorem lifted (os : Os) (started : os.Started) (H : Type) (enc : TypeId × Value → H) :
    ReturnsInHanded {} Try.checked os 5 .any (Rows.kvKeepsSpec.pre6 enc Try.prog Try.f5 Rows.kvKeepsRow.domain false) (Rows.kvKeepsSpec.post enc Try.prog Try.f5 false true false false) := by
  refine returnsInHanded_of_change (C := Try.checked) own started (by kernel_rfl) Try.func5
    (ChangeSpec.witness6 (enc := enc) (C := Try.checked) false ⟨#[], #[.int .i64 0, .int .i64 0, .int .i64 0], []⟩ 8 (by kernel_rfl) (by kernel_rfl) (by kernel_rfl) (by kernel_rfl)) ?_
  intro W base args ds gs before hval hW _ _
  exact contract H enc W base args ds gs before hval hW

theorem over : Rows.kvKeepsRow.holds Try.pinned (OpenSpec.ofChange Rows.kvKeepsSpec) :=
  OpenClaim.holds_of_wide 5 Try.f5 rfl rfl rfl rfl rfl rfl rfl ⟨rfl, rfl, rfl, rfl, rfl⟩ rfl rfl rfl rfl rfl (by kernel_rfl) Try.func5 (by kernel_rfl)
    (of_decide_eq_true (by kernel_rfl)) (by unfold Func.isWrapper; first | (rw [if_pos (by decide +kernel)]; kernel_rfl) | (rw [if_neg (by decide +kernel)]; exact ⟨rfl, rfl⟩))
    (fun os started H enc _ => lifted os started H enc)

theorem proved : Rows.KvKeepsSaid :=
  over
#print axioms proved
end Go.Proofs.Ytgjjeggopeppfaa.kvKeeps
