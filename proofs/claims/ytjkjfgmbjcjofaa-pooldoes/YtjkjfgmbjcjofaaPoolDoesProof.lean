/- For every number of pages and every row of acts (its first hundred): the program's pool and the document's answer each act alike, and Get, Count, sizes, owners and tags are told alike behind it; and New refuses alike. -/
import Derived.Test.YtjkjfgmbjcjofaaRows
import Derived.Test.YtjkjfgmbjcjofaaView
import Derived.Test.YtjkjfgmbjcjofaaOwn
import Derived.Test.YtjkjfgmbjcjofaaPages
import Derived.Test.YtjkjfgmbjcjofaaReadsP
import Derived.Test.YtjkjfgmbjcjofaaReadsQ
import Derived.Test.YtjkjfgmbjcjofaaRefPg
import Derived.Test.YtjkjfgmbjcjofaaRefRd
import Derived.Test.YtjkjfgmbjcjofaaLeast
import Derived.Test.YtjkjfgmbjcjofaaLays
import Derived.Test.YtjkjfgmbjcjofaaTurns
import Derived.Test.YtjkjfgmbjcjofaaNews
import Derived.Test.YtjkjfgmbjcjofaaGoods
import Derived.Test.YtjkjfgmbjcjofaaCount
import Derived.Test.YtjkjfgmbjcjofaaOpenOps
import Derived.Test.YtjkjfgmbjcjofaaAct
import Derived.Test.YtjkjfgmbjcjofaaActs
import Derived.Test.YtjkjfgmbjcjofaaSameP
import Derived.WalkKit
import Derived.ProofKit
import Derived.OpenShut
import Derived.ChangeOld
import Derived.Below
import Derived.WalkLawsBesides
import Derived.ChangeMaps5
import Derived.Deep.QuietTactic
import Derived.BigQuiet
namespace Go.Proofs.Ytjkjfgmbjcjofaa.poolDoes
open Go.ChangeShapes Go.WideShapes Go.ChangeAt Go.RowKit
set_option linter.unusedVariables false
set_option linter.unusedSimpArgs false

theorem own : ownKnob Try.prog.godebug = none := by kernel_rfl
theorem laidOut : laidOutB Try.prog = true := by kernel_rfl


set_option maxHeartbeats 2000000 in
set_option maxRecDepth 20000 in
theorem walk (a0 : Int) (a1 : Option Addr) (n1 c1 : Nat) (O1 : Nat → OpV) (w : World) (w0 : (Lit.int .i64 a0).wf = true) (w1 : OpsAt w a1 n1 O1) (e1 : a1 = none → c1 = 0) (l1 : n1 ≤ c1) :
    Calls Try.prog 3 #[.int .i64 a0, .slice a1 n1 c1] w fun e w' => e = .returned (.bool true) ∧ Below w.heap.size w w' := by
  have hm1 := w1.max
  by_cases hin : 1 ≤ a0 ∧ a0 ≤ 256
  · obtain ⟨N, rfl⟩ : ∃ N : Nat, a0 = (N : Int) := ⟨a0.toNat, by omega⟩
    have k7 := new_call N (by omega) (by omega)
    have k8 := refNew_call N (by omega) (by omega)
    have hN : N ≤ 256 := by omega
    have hG0 := hidden_ (good_new N 5 (by omega) (by omega))
    have hops := hidden_ w1
    clear hin w1
    go_enter Try.func3, Try.ntmps3
    go_wp2_with (first
      | (go_at_call 7; refine (k7 _).mono ?_; rintro e W1 ⟨rfl, hp', hbl⟩; clear k7; have hp := hidden_ (hp' _ (Nat.le_refl _)); have hb := hidden_ hbl; clear hp' hbl)
      | (go_at_call 8; refine (k8 _).mono ?_; rintro e W2 ⟨rfl, hr', hbl⟩; clear k8; have hr := hidden_ (hr' _ hb.out.size); replace hp := hidden_ (hp.out.below hbl); replace hb := hidden_ (below_then hb.out hbl); clear hr' hbl))
    obtain ⟨b, eb⟩ : ∃ b, w.heap.size + 1 = b := ⟨_, rfl⟩
    obtain ⟨b', eb'⟩ : ∃ b', W1.heap.size + 1 = b' := ⟨_, rfl⟩
    rw [eb] at hp
    rw [eb'] at hr
    rw [eb, eb']
    obtain ⟨g, eg⟩ : ∃ g, g = w.heap.size := ⟨_, rfl⟩
    obtain ⟨g', eg'⟩ : ∃ g', g' = W1.heap.size := ⟨_, rfl⟩
    have hbo : Hid (Both w.heap.size W2 b g b' g' (newPl N)) := ⟨by rw [eg]; exact hp.out, ⟨_, by rw [eg']; exact hr.out⟩⟩
    clear hp hr eb eb' eg eg'
    go_loopw [9] (fun i wr => ∃ k : Nat, k ≤ n1 ∧ k ≤ 100 ∧ i = .int .i64 k ∧ (∃ s, Good (k + 5) s ∧ Both w.heap.size wr b g b' g' s) ∧ Below w.heap.size w wr) (fun i _ => n1 - (intOf i).toNat)
    case atStart => exact ⟨0, Nat.zero_le _, Nat.zero_le _, rfl, ⟨_, hG0.out, hbo.out⟩, hb.out⟩
    case round =>
      clear hbo hb
      obtain ⟨k, hk, hk', rfl, ⟨s, hG, hB⟩, hb'⟩ := hrel
      by_cases hlt : k < n1 ∧ k < 100
      · obtain ⟨y1, y2⟩ := hlt
        have y1' : (k : Int) < (n1 : Int) := by omega
        have y2' : (k : Int) < 100 := by omega
        obtain ⟨x, rfl⟩ := hops.out.some_ (by omega)
        have cl := (hops.out.below hb').cell x rfl k y1
        obtain ⟨P, eP⟩ : ∃ P, x.add (k * 5) = P := ⟨_, rfl⟩
        rw [eP] at cl
        obtain ⟨d0, d1, d2, d3, d4⟩ := cl
        have d1' : wr.cell? ⟨P.block, P.off + 1, none⟩ = some (.string (O1 k).t) := d1
        have d2' : wr.cell? ⟨P.block, P.off + 2, none⟩ = some (.int .i64 (O1 k).n) := d2
        have d3' : wr.cell? ⟨P.block, P.off + 3, none⟩ = some (.int .i64 (O1 k).c) := d3
        have d4' : wr.cell? ⟨P.block, P.off + 4, none⟩ = some (.int .i64 (O1 k).v) := d4
        clear d1 d2 d3 d4
        obtain ⟨o, eo⟩ : ∃ o, O1 k = o := ⟨_, rfl⟩
        rw [eo] at d0 d1' d2' d3' d4'
        clear eo
        have hA := below_new (Below.refl wr.heap.size wr) (.cells (boxC o) 31)
        have hbx := BoxAt.new wr o
        obtain ⟨hp, ⟨r, hr⟩⟩ := hB
        have hq := hidden_ (And.intro (hp.below hA) (And.intro (hr.below hA) (And.intro hbx (below_then hb' hA))))
        have k9 := act_call (hp.below hA) (hr.below hA) hG (by omega) o
        have hG2 := good_act hG (by omega) o
        clear hp hr hA hbx hb' hG
        unfold boxC at k9 hq
        obtain ⟨A, eA⟩ : ∃ A, wr.alloc (.cells #[.int .i64 o.k, .string o.t, .int .i64 o.n, .int .i64 o.c, .int .i64 o.v] 31) = A := ⟨_, rfl⟩
        rw [eA] at k9 hq
        obtain ⟨S, eS⟩ : ∃ S, actS s o = S := ⟨_, rfl⟩
        rw [eS] at k9 hG2
        clear eS
        have e0 := hq.out.2.2.1.c0
        have e1 := hq.out.2.2.1.c1
        have e2 := hq.out.2.2.1.c2
        have e3 := hq.out.2.2.1.c3
        have e4 := hq.out.2.2.1.c4
        have n1' := hG2.n1
        have kk : Hid (∀ W, Both w.heap.size W b g b' g' S → ∀ m, (Calls Try.prog 10 #[.pointer (some ⟨b, 0, none⟩), .int .i64 o.n, .int .i64 o.c] W fun e w' => e = .returned (.tuple #[.int .i64 (getV S o.n o.c), .int .i64 (getE S o.n o.c)]) ∧ w' = W) ∧
            (Calls Try.prog 11 #[.pointer (some ⟨b', 0, none⟩), .int .i64 o.n, .int .i64 o.c] W fun e w' => e = .returned (.tuple #[.int .i64 (getV S o.n o.c), .int .i64 (getE S o.n o.c)]) ∧ w' = W) ∧
            (Calls Try.prog 12 #[.pointer (some ⟨b, 0, none⟩), .string o.t] (W.drewN m) fun e w' => e = .returned (.int .i64 (cntTo S.pg o.t S.n)) ∧ w' = W.drewN m) ∧
            (Calls Try.prog 13 #[.pointer (some ⟨b', 0, none⟩), .string o.t] (W.drewN m) fun e w' => e = .returned (.int .i64 (cntTo S.pg o.t S.n)) ∧ w' = W.drewN m) ∧
            (Calls Try.prog 14 #[.pointer (some ⟨b, 0, none⟩), .pointer (some ⟨b', 0, none⟩)] (W.drewN m) fun e w' => e = .returned (.bool true) ∧ ∃ m', w' = (W.drewN m).drewN m')) := by
          rintro W ⟨q1, ⟨r1, q2⟩⟩ m
          exact ⟨get_call q1 n1' _ _, refGet_call q2 n1' hG2.ow0 _ _, count_call (q1.drewN m) n1' _, refCount_call (q2.drewN m) n1' _, samePools_call (q1.drewN m) (q2.drewN m) hG2⟩
        obtain ⟨V, eV⟩ : ∃ V, getV S o.n o.c = V := ⟨_, rfl⟩
        obtain ⟨E, eE⟩ : ∃ E, getE S o.n o.c = E := ⟨_, rfl⟩
        obtain ⟨C, eC⟩ : ∃ C, (cntTo S.pg o.t S.n : Int) = C := ⟨_, rfl⟩
        simp only [eV, eE, eC] at kk
        clear eV eE eC n1'
        obtain ⟨ok, ot, on, oc, ov⟩ := o
        simp only at d0 d1' d2' d3' d4' e0 e1 e2 e3 e4 k9 kk eA hq
        have hG3 := hidden_ hG2
        clear hG2
        obtain ⟨M, eM⟩ : ∃ M, (k : Int).tmod 5 = M := ⟨_, rfl⟩
        have eM' : (k : Int) % 5 = M := by rw [← eM, Int.tmod_eq_emod_of_nonneg (by omega)]
        by_cases hM : M = 0
        · subst hM
          go_wp2_with (first
            | (go_at_call 9; refine k9.mono ?_; rintro e W3 ⟨rfl, hB, o'⟩; have bx := hq.out.2.2.1.off o' rfl; clear k9 e0 e1 e2 e3 e4; have e1 := bx.c1; have e2 := bx.c2; have e3 := bx.c3; simp only at e1 e2 e3; obtain ⟨k10, k11, -⟩ := kk.out W3 hB 0; have k12 := fun m => (kk.out W3 hB m).2.2.1; have k13 := fun m => (kk.out W3 hB m).2.2.2.1; have k14 := fun m => (kk.out W3 hB m).2.2.2.2; have hz := hidden_ (And.intro hB (hq.out.2.2.2.trans (o'.below hq.out.2.2.2.size))); clear bx hB o' kk hq)
            | (go_at_call 10; refine k10.mono ?_; rintro e W4 ⟨rfl, h4⟩; obtain rfl := h4.symm; clear k10)
            | (go_at_call 11; refine k11.mono ?_; rintro e W5 ⟨rfl, h5⟩; obtain rfl := h5.symm; clear k11))
          have v1 : (V != V) = false := by simp
          have v2 : (E != E) = false := by simp
          have v3 : (C != C) = false := by simp
          go_quiet (first | (go_at_call 12; exact Calls.quiet_of_same (k12 _)) | (go_at_call 13; exact Calls.quiet_of_same (k13 _)))
          clear k12 k13 d0 d1' d2' d3' d4' e1 e2 e3
          go_wp2_with (first
            | (go_at_call 14; refine (k14 _).mono ?_; rintro e W6 ⟨rfl, m6, h6⟩; clear k14; have hw6 := hidden_ h6; clear h6))
          go_roundw
          case rel => exact ⟨k + 1, by omega, by omega, by go_num, ⟨S, by have := hG3.out; rw [show k + 1 + 5 = k + 5 + 1 by omega]; exact this, by rw [hw6.out]; obtain ⟨q1, ⟨r1, q2⟩⟩ := hz.out.1; exact ⟨(q1.drewN _).drewN _, ⟨r1, (q2.drewN _).drewN _⟩⟩⟩, by rw [hw6.out]; exact below_drew (below_drew hz.out.2 ⟨_, rfl⟩) ⟨_, rfl⟩⟩
          case measure => simp [intOf]; omega
        · have hM' : (M == 0) = false := by simp [hM]
          go_wp2_with (first
            | (go_at_call 9; refine k9.mono ?_; rintro e W3 ⟨rfl, hB, o'⟩; have bx := hq.out.2.2.1.off o' rfl; clear k9 e0 e1 e2 e3 e4; have e1 := bx.c1; have e2 := bx.c2; have e3 := bx.c3; simp only at e1 e2 e3; obtain ⟨k10, k11, -⟩ := kk.out W3 hB 0; have k12 := fun m => (kk.out W3 hB m).2.2.1; have k13 := fun m => (kk.out W3 hB m).2.2.2.1; have k14 := fun m => (kk.out W3 hB m).2.2.2.2; have hz := hidden_ (And.intro hB (hq.out.2.2.2.trans (o'.below hq.out.2.2.2.size))); clear bx hB o' kk hq)
            | (go_at_call 10; refine k10.mono ?_; rintro e W4 ⟨rfl, h4⟩; obtain rfl := h4.symm; clear k10)
            | (go_at_call 11; refine k11.mono ?_; rintro e W5 ⟨rfl, h5⟩; obtain rfl := h5.symm; clear k11))
          have v1 : (V != V) = false := by simp
          have v2 : (E != E) = false := by simp
          have v3 : (C != C) = false := by simp
          go_quiet (first | (go_at_call 12; exact Calls.quiet_of_same (k12 _)) | (go_at_call 13; exact Calls.quiet_of_same (k13 _)))
          clear k12 k13 d0 d1' d2' d3' d4' e1 e2 e3
          clear k14
          go_wp2
          go_roundw
          case rel => exact ⟨k + 1, by omega, by omega, by go_num, ⟨S, by have := hG3.out; rw [show k + 1 + 5 = k + 5 + 1 by omega]; exact this, by obtain ⟨q1, ⟨r1, q2⟩⟩ := hz.out.1; exact ⟨q1.drewN _, ⟨r1, q2.drewN _⟩⟩⟩, below_drew hz.out.2 ⟨_, rfl⟩⟩
          case measure => simp [intOf]; omega
      · obtain ⟨hp, ⟨r, hr⟩⟩ := hB
        have k14 := samePools_call hp hr hG
        have hb2 := hidden_ hb'
        have hx : Hid (¬ (k < n1 ∧ k < 100)) := hlt
        clear hb' hp hr hG
        by_cases y1 : k < n1
        · have y2 : k = 100 := by omega
          have y1' : (k : Int) < (n1 : Int) := by omega
          subst y2
          clear hlt
          go_wp2_with (first | (go_at_call 14; refine k14.mono ?_; rintro e W6 ⟨rfl, m6, h6⟩; have hw6 := hidden_ h6; clear h6))
          go_ret
          exact ⟨rfl, by rw [hw6.out]; exact below_drew hb2.out ⟨_, rfl⟩⟩
        · have y1' : ¬ (k : Int) < (n1 : Int) := by omega
          clear hlt
          go_wp2_with (first | (go_at_call 14; refine k14.mono ?_; rintro e W6 ⟨rfl, m6, h6⟩; have hw6 := hidden_ h6; clear h6))
          go_ret
          exact ⟨rfl, by rw [hw6.out]; exact below_drew hb2.out ⟨_, rfl⟩⟩
  · have h0 : a0 < 1 ∨ 256 < a0 := by omega
    have k7 := new_no a0 h0
    have k8 := refNew_no a0 h0
    clear h0 hin w1
    go_enter Try.func3, Try.ntmps3
    go_wp2_with (first
      | (go_at_call 7; refine (k7 _).mono ?_; rintro e W1 ⟨rfl, h1⟩; obtain rfl := h1.symm; clear k7)
      | (go_at_call 8; refine (k8 _).mono ?_; rintro e W1 ⟨rfl, h1⟩; obtain rfl := h1.symm; clear k8))
    go_ret
    exact ⟨rfl, Below.refl _ _⟩

theorem contract (H : Type) (enc : TypeId × Value → H) (W : World) (base : Nat) (args : Array Value) (ds gs : List (DataW H)) (before : List MemPlace)
    (hval0 : ∀ (j : Nat) t v, Try.f3.params[j]? = some t → args[j]? = some v → Value.okWide Try.prog W .any base t v)
    (hW : DataW.Whole enc Try.prog Try.f3.params.toList Rows.poolDoesSpec.vars false W args.toList ds gs before) :
    Calls Try.prog 3 args W fun e W' => ∃ v, e = .returned v ∧ Rows.poolDoesSpec.post enc Try.prog Try.f3 false true false false W args v W' := by
  have hval : ∀ (j : Nat) t v, Try.f3.params[j]? = some t → args[j]? = some v → Value.okWide Try.prog W .any base t v := hval0
  have hW' := hW
  obtain ⟨p, q, hA0, hV, rfl, hfz, hnd⟩ := hW
  have hA : DataW.TrodAll enc Try.prog W 0 (fun _ => true) true Try.f3.params.toList args.toList ds p := hA0
  rw [Try.params3] at hA hval
  obtain ⟨v0, vs0, d0, ds0, p0, q0, hargs, rfl, rfl, h0, r0⟩ := trodAll_cons hA
  obtain ⟨v1, vs1, d1, ds1, p1, q1, rfl, rfl, rfl, h1, r1⟩ := trodAll_cons r0
  obtain ⟨rfl, rfl, rfl⟩ := trodAll_nil r1
  obtain rfl : args = #[v0, v1] := by cases args; simp_all
  obtain ⟨rfl, rfl⟩ := trodVars_none hV
  obtain ⟨a0, rfl, rfl, rfl, w0⟩ := open_int Try.underlying3 (hval 0 3 v0 rfl rfl) h0
  obtain ⟨a1, n1, c1, rfl⟩ := okWide_slice Try.underlying22 (hval 1 22 v1 rfl rfl)
  have k1 := h1
  have lt1 : ∀ x ∈ p1, x.block < W.heap.size := by obtain ⟨m, hm⟩ := k1; exact DataW.trod_lt m _ _ _ hm
  obtain ⟨O1, w1, e1, l1⟩ := open_ops h1
  clear hA0 hval0
  refine (walk a0 a1 n1 c1 O1 W w0 w1 e1 l1).mono fun e W' ⟨he, bel⟩ => ?_
  subst he
  exact ⟨_, rfl, _, _, _, [], _, [], hW', trodAll_mk1 (shut_bool Try.underlying4 _), (trodAll_cons_mk (shut_int Try.underlying3 w0) (trodAll_cons_mk (Below.trod laidOut (by kernel_rfl) (of_decide_eq_true (by kernel_rfl)) k1 bel lt1) trodAll_mk0)), rfl, bel.frame _, fun h => by cases h⟩

set_option maxRecDepth 100000 in
theorem lifted (os : Os) (started : os.Started) (H : Type) (enc : TypeId × Value → H) :
    ReturnsInHanded {} Try.checked os 3 .any (Rows.poolDoesSpec.pre6 enc Try.prog Try.f3 Rows.poolDoesRow.domain false) (Rows.poolDoesSpec.post enc Try.prog Try.f3 false true false false) := by
  refine returnsInHanded_of_change (C := Try.checked) own started (by kernel_rfl) Try.func3
    (ChangeSpec.witness6 (enc := enc) (C := Try.checked) false ⟨#[], #[.int .i64 0, .slice none 0 0], []⟩ 8 (by kernel_rfl) (by kernel_rfl) (by kernel_rfl) (by kernel_rfl)) ?_
  intro W base args ds gs before hval hW _ _
  exact contract H enc W base args ds gs before hval hW

theorem over : Rows.poolDoesRow.holds Try.pinned (OpenSpec.ofChange Rows.poolDoesSpec) :=
  OpenClaim.holds_of_wide 3 Try.f3 rfl rfl rfl rfl rfl rfl rfl ⟨rfl, rfl, rfl, rfl, rfl⟩ rfl rfl rfl rfl rfl (by kernel_rfl) Try.func3 (by kernel_rfl)
    (of_decide_eq_true (by kernel_rfl)) (by unfold Func.isWrapper; first | (rw [if_pos (by decide +kernel)]; kernel_rfl) | (rw [if_neg (by decide +kernel)]; exact ⟨rfl, rfl⟩))
    (fun os started H enc _ => lifted os started H enc)

theorem proved : Rows.PoolDoesSaid :=
  over
#print axioms proved
end Go.Proofs.Ytjkjfgmbjcjofaa.poolDoes
